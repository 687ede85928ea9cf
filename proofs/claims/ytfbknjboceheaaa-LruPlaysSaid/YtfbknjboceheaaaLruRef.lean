/-
  hustingsref15: a list by its words, as contracts.
-/
import Derived.Test.YtfbknjboceheaaaLruMore
import Derived.Test.YtfbknjboceheaaaStep
namespace Go.Proofs.Ytfbknjboceheaaa
open Go.RowKit
set_option linter.unusedVariables false

def RefL (w : World) (b g N : Nat) (xs : List Int) : Prop := ∃ A c, Blk w g 57 #[.int .i64 N, .slice A xs.length c] ∧ w.ownsRow b 3 1 (.slice A xs.length c) xs.length (xs.map (.int .i64))

theorem RefL.lt {w : World} {b g N : Nat} {xs : List Int} (h : RefL w b g N xs) : g < w.heap.size := by
  obtain ⟨A, c, h1, _⟩ := h
  exact h1.lt
theorem RefL.still {w w' : World} {b g N : Nat} {xs : List Int} (h : RefL w b g N xs) (k : Still w w') : RefL w' b g N xs := by
  obtain ⟨A, c, h1, h2⟩ := h
  exact ⟨A, c, h1.only k (fun h => h), own_only h2 k (fun _ _ h => h)⟩
theorem RefL.base {w : World} {b b' g N : Nat} {xs : List Int} (h : RefL w b g N xs) (hb : b' ≤ b) : RefL w b' g N xs := by
  obtain ⟨A, c, h1, h2⟩ := h
  exact ⟨A, c, h1, own_base h2 hb⟩
/-- Blocks of another type turn: this one stays. -/
theorem RefL.other {w w' : World} {b g N : Nat} {xs : List Int} {S : Nat → Prop} (h : RefL w b g N xs) (k : Only S w w')
    (hS : ∀ i t cs, S i → w.heap[i]? = some (.cells cs t (0, 0)) → t ≠ 57 ∧ t ≠ 3) : RefL w' b g N xs := by
  obtain ⟨A, c, h1, h2⟩ := h
  refine ⟨A, c, h1.only k (fun hs => (hS _ _ _ hs h1).1 rfl), own_only h2 k ?_⟩
  rcases h2.2 with ⟨h3, _⟩ | ⟨g', cap, cur, h3, _, hh, _⟩
  · intro i hi; rw [h3] at hi; simp [Value.ownBlock] at hi
  · intro i hi hs
    rw [h3] at hi
    simp [Value.ownBlock] at hi
    subst hi
    exact (hS _ _ _ hs hh).2 rfl

theorem refl_new_out {w : World} (n : Int) (hn : n < 0 ∨ 256 < n) :
    Calls Try.prog 19 #[.int .i64 n] w fun e w' => e = .returned (.tuple #[.pointer none, .int .i64 1]) ∧ w = w' := by
  go_enter Try.func19, Try.ntmps19
  by_cases h0 : n < 0
  · go_wp2
    go_ret2
    exact ⟨rfl, rfl⟩
  · have h1 : 256 < n := by omega
    go_wp2
    go_ret2
    exact ⟨rfl, rfl⟩
set_option maxRecDepth 1000000 in
theorem refl_new_in {w : World} (n : Nat) (hn : n ≤ 256) :
    Calls Try.prog 19 #[.int .i64 n] w fun e w' => ∃ g, e = .returned (.tuple #[.pointer (some ⟨g, 0, none⟩), .int .i64 0]) ∧ w.heap.size ≤ g ∧ RefL w' w.heap.size g n [] ∧ Still w w' := by
  have h1 : ¬ (256 : Int) < (n : Int) := by omega
  have h2 : ¬ (n : Int) < 0 := by omega
  have h2d : decide ((n : Int) < 0) = false := decide_eq_false h2
  go_enter Try.func19, Try.ntmps19
  go_wp2_with fail
  go_ret2
  exact ⟨_, rfl, Nat.le_refl _, ⟨none, 0, Blk.new _ _ _, World.ownsRow_nil _ _ _ _⟩, Still.new w _⟩

theorem flt_mem {p : Int} {xs : List Int} : decide ((flt p xs).length < xs.length) = decide (p ∈ xs) := by
  rw [decide_eq_decide]
  unfold flt
  constructor
  · intro h
    rcases Classical.em (p ∈ xs) with hm | hm
    · exact hm
    · rw [List.filter_eq_self.2 (by intro a ha; simp; rintro rfl; exact hm ha)] at h
      omega
  · intro h
    rcases Nat.lt_or_ge (xs.filter (fun x => decide (x ≠ p))).length xs.length with h1 | h1
    · exact h1
    · have h2 := List.length_filter_le (fun x => decide (x ≠ p)) xs
      have h3 := List.length_filter_eq_length_iff.1 (Nat.le_antisymm h2 h1) p h
      simp at h3

set_option maxRecDepth 1000000 in
set_option maxHeartbeats 6400000 in
theorem refl_drop {w : World} {b g N : Nat} {xs : List Int} (h : RefL w b g N xs) (hn : xs.length ≤ 1000000) (p : Int) :
    Calls Try.prog 21 #[.pointer (some ⟨g, 0, none⟩), .int .i64 p] w fun e w' => e = .returned (.bool (decide (p ∈ xs))) ∧ RefL w' w.heap.size g N (flt p xs) ∧ Only (· = g) w w' := by
  obtain ⟨A, c, h1, h2⟩ := h
  have c1 := h1.cell 1
  have f1 := h1.frozen 1
  simp at c1
  obtain ⟨i0, hi, hz0, hz1, hz2⟩ := info_parts info_int
  have hgw := h1.lt
  have hrow := Reads.of_own h2
  have hmem := flt_mem (p := p) (xs := xs)
  have Hmem := Lib.hid hmem
  clear hmem
  go_enter Try.func21, Try.ntmps21
  go_wp2_with fail
  go_loopw [5, 6] (fun v i wr => ∃ k : Nat, k ≤ xs.length ∧ i = .int .i64 k ∧ wr.ownsRow w.heap.size 3 1 v (flt p (xs.take k)).length ((flt p (xs.take k)).map (.int .i64)) ∧ Hid (Still w wr)) (fun _ i _ => xs.length - (intOf i).toNat)
  case atStart => exact ⟨0, by omega, rfl, World.ownsRow_nil _ _ _ _, Lib.hid (Only.refl _ _)⟩
  case round =>
    obtain ⟨k, hk, rfl, hown, hst⟩ := hrel
    have hbr := h1.only hst.out (fun h => h)
    have hc1 := hbr.cell 1
    have hf1 := hbr.frozen 1
    simp at hc1
    obtain ⟨Av, cv, rfl⟩ := own_shape hown
    by_cases hlt : k < xs.length
    · obtain ⟨ad, x, rfl, had, hxk, hcx⟩ := reads_int (hrow.only hst.out (Nat.le_refl _) (fun _ _ h => h)) hlt
      by_cases hxP : x = p
      · have hsn := flt_drop hxk hxP
        subst hxP
        have Hsn := Lib.hid hsn
        clear hsn hxk
        go_wp2_with fail
        go_roundw
        case rel => exact ⟨k + 1, by omega, by go_num, by rw [Hsn.out]; exact hown, hst⟩
        case measure => simp [intOf]; omega
      · have hsn := flt_keep hxk hxP
        have hne : (x != p) = true := by simp [hxP]
        have Hsn := Lib.hid hsn
        have hfl := flt_le p (xs.take k)
        have htk : (xs.take k).length ≤ k := List.length_take_le _ _
        have hsz := hst.out.size
        have hp1 := hown.alloc (.cells #[.int .i64 x] 3)
        have hrd := reads_made wr 3 .i64 [x] 1 rfl
        clear hsn hxk hxP
        go_wp2_with (at_builtin; refine wpList_append_any _ rfl (.tmp 26) (.tmp 34) 36 rfl w.heap.size 3 i0 (.int .i64 0) 1 8 Try.underlying36 hi hz0 hz1 hz2 rfl (by decide) _ _ _ rfl hp1 (wr.heap.size + 1) (some ⟨wr.heap.size, 0, none⟩) 1 1 _ rfl hrd ?c1 ?c2 ?c3 ?c4 ?_)
        case c1 => intro u hu; simp at hu; subst hu; rfl
        case c2 => unfold maxLen; omega
        case c3 => omega
        case c4 => simp; omega
        intro v' w' hown' hgrow hblk
        have hst' : Still w w' := (hst.out.alloc _).grown hgrow (fun k hk => .inr (hown.lt k hk).1)
        obtain ⟨A', c', hv⟩ := own_shape hown'
        subst hv
        go_wp2_with fail
        go_roundw
        case rel =>
          refine ⟨k + 1, by omega, by go_num, ?_, Lib.hid hst'⟩
          rw [Hsn.out, List.length_append, List.map_append]
          exact hown'
        case measure => simp [intOf]; omega
    · obtain rfl : xs.length = k := by omega
      rw [List.take_of_length_le (Nat.le_refl _)] at hown
      rw [List.take_of_length_le (Nat.le_refl _)]
      have hb2 := hbr.set_ 1 (.slice Av (flt p xs).length cv)
      have ho : Only (· = g) w (wr.setCell ⟨g, 1, none⟩ (.slice Av (flt p xs).length cv)) := (Only.of_still hst.out (· = g)).setCell (p := ⟨g, 1, none⟩) (.inl rfl) _
      have hown2 : (wr.setCell ⟨g, 1, none⟩ (.slice Av (flt p xs).length cv)).ownsRow w.heap.size 3 1 (.slice Av (flt p xs).length cv) (flt p xs).length ((flt p xs).map (.int .i64)) :=
        own_only hown ((Only.refl (· = g) wr).setCell (p := ⟨g, 1, none⟩) (.inl rfl) _) (fun k hk e => by have := (hown.lt k hk).1; omega)
      generalize hY : flt p xs = Y at *
      have HY := Lib.hid hY
      clear hY hown
      go_wp2_with fail
      go_ret
      rw [HY.out]
      refine ⟨ret_bool ?_, ⟨Av, cv, by simpa using hb2, hown2⟩, ho⟩
      rw [← Hmem.out]

theorem refl_use_out {w : World} {b g N : Nat} {xs : List Int} (h : RefL w b g N xs) (p : Int) (hp : ¬ (0 ≤ p ∧ p < N)) :
    Calls Try.prog 20 #[.pointer (some ⟨g, 0, none⟩), .int .i64 p] w fun e w' => e = .returned (.int .i64 1) ∧ w = w' := by
  obtain ⟨A, c, h1, h2⟩ := h
  have c0 := h1.cell 0
  simp at c0
  by_cases h0 : p < 0
  · go_enter Try.func20, Try.ntmps20
    go_wp2
    go_ret
    exact ⟨rfl, rfl⟩
  · have h3 : (N : Int) ≤ p := by omega
    have hd : decide (p < 0) = false := decide_eq_false h0
    go_enter Try.func20, Try.ntmps20
    go_wp2
    go_ret
    exact ⟨rfl, rfl⟩

set_option maxRecDepth 1000000 in
set_option maxHeartbeats 6400000 in
theorem refl_use_in {w : World} {b g N : Nat} {xs : List Int} (h : RefL w b g N xs) (hn : xs.length ≤ 1000000) (p : Int) (hp0 : 0 ≤ p) (hp1 : p < N) :
    Calls Try.prog 20 #[.pointer (some ⟨g, 0, none⟩), .int .i64 p] w fun e w' => e = .returned (.int .i64 0) ∧ RefL w' w.heap.size g N (flt p xs ++ [p]) ∧ Only (· = g) w w' := by
  have h' := h
  obtain ⟨A, c, h1, h2⟩ := h'
  have c0 := h1.cell 0
  simp at c0
  have hd : decide (p < 0) = false := decide_eq_false (by omega)
  obtain ⟨i0, hi, hz0, hz1, hz2⟩ := info_parts info_int
  have hgw := h1.lt
  go_enter Try.func20, Try.ntmps20
  go_wp2_with fail
  refine (refl_drop h hn p).mono ?_
  rintro e w1 ⟨rfl, hl1, ho1⟩
  have hfl := flt_le p xs
  obtain ⟨Y, hY⟩ : ∃ Y, Y = flt p xs := ⟨_, rfl⟩
  rw [← hY] at hl1 hfl
  have HY := Lib.hid hY
  clear hY c0 h1 h2
  obtain ⟨A1, c1, hb1, hown1⟩ := hl1
  have k1 := hb1.cell 1
  simp at k1
  have hsz := ho1.size
  have hp1 := hown1.alloc (.cells #[.int .i64 p] 3)
  have hrd := reads_made w1 3 .i64 [p] 1 rfl
  go_wp2_with (at_builtin; refine wpList_append_any _ rfl (.tmp 22) (.tmp 24) 36 rfl w.heap.size 3 i0 (.int .i64 0) 1 8 Try.underlying36 hi hz0 hz1 hz2 rfl (by decide) _ _ _ rfl hp1 (w1.heap.size + 1) (some ⟨w1.heap.size, 0, none⟩) 1 1 _ rfl hrd ?c1 ?c2 ?c3 ?c4 ?_)
  case c1 => intro u hu; simp at hu; subst hu; rfl
  case c2 => unfold maxLen; omega
  case c3 => omega
  case c4 => simp; omega
  intro v' w2 hown2 hgrow hblk
  have hs2 : Only (· = g) w w2 := (ho1.alloc _).grown hgrow (fun k hk => .inr (hown1.lt k hk).1)
  have hb2 : Blk w2 g _ _ := hb1.only ((Only.refl (fun k => w.heap.size ≤ k) w1).alloc (.cells #[.int .i64 p] 3) |>.grown hgrow (fun k hk => .inl (hown1.lt k hk).1)) (by omega)
  have hown2' : w2.ownsRow w.heap.size 3 1 v' (Y ++ [p]).length ((Y ++ [p]).map (.int .i64)) := by
    rw [List.map_append, List.length_append]; exact hown2
  obtain ⟨A2, c2, rfl⟩ := own_shape hown2'
  have hf2 := hb2.frozen 1
  have k2 := hb2.cell 1
  simp at k2
  have hb3 := hb2.set_ 1 (.slice A2 (Y ++ [p]).length c2)
  have ho3 : Only (· = g) w (w2.setCell ⟨g, 1, none⟩ (.slice A2 (Y ++ [p]).length c2)) := hs2.setCell (p := ⟨g, 1, none⟩) (.inl rfl) _
  have hown3 : (w2.setCell ⟨g, 1, none⟩ (.slice A2 (Y ++ [p]).length c2)).ownsRow w.heap.size 3 1 (.slice A2 (Y ++ [p]).length c2) (Y ++ [p]).length ((Y ++ [p]).map (.int .i64)) :=
    own_only hown2' ((Only.refl (· = g) w2).setCell (p := ⟨g, 1, none⟩) (.inl rfl) _) (fun k hk e => by have := (hown2'.lt k hk).1; omega)
  generalize hZ : Y ++ [p] = Z at *
  have HZ := Lib.hid hZ
  clear hZ
  go_wp2_with fail
  go_ret
  rw [← HY.out, HZ.out]
  exact ⟨rfl, ⟨A2, c2, by simpa using hb3, hown3⟩, ho3⟩

theorem refl_oldest_none {w : World} {b g N : Nat} (h : RefL w b g N []) :
    Calls Try.prog 29 #[.pointer (some ⟨g, 0, none⟩)] w fun e w' => e = .returned (.tuple #[.int .i64 0, .bool false]) ∧ w = w' := by
  obtain ⟨A, c, h1, h2⟩ := h
  have c1 := h1.cell 1
  simp at c1
  go_enter Try.func29, Try.ntmps29
  go_wp2
  go_ret2
  exact ⟨rfl, rfl⟩
theorem refl_oldest_some {w : World} {b g N : Nat} {x : Int} {xs : List Int} (h : RefL w b g N (x :: xs)) (hn : (x :: xs).length ≤ 1000000) :
    Calls Try.prog 29 #[.pointer (some ⟨g, 0, none⟩)] w fun e w' => e = .returned (.tuple #[.int .i64 x, .bool true]) ∧ ∃ q, w' = w.drewN q := by
  obtain ⟨A, c, h1, h2⟩ := h
  have c1 := h1.cell 1
  simp at c1
  obtain ⟨ad, y, rfl, _, hy, hc⟩ := reads_int (Reads.of_own h2) (k := 0) (by simp)
  simp at hy
  subst hy
  have hc0 : w.cell? ad = some (.int .i64 x) := by simpa [Addr.add] using hc
  have hn1 : xs.length ≤ 1000000 := by simp at hn; omega
  have hz : ((xs.length : Int) + 1 == 0) = false := by simp; omega
  go_enter Try.func29, Try.ntmps29
  go_wp2
  go_ret2
  exact ⟨rfl, 0, rfl⟩
theorem refl_newest_none {w : World} {b g N : Nat} (h : RefL w b g N []) :
    Calls Try.prog 30 #[.pointer (some ⟨g, 0, none⟩)] w fun e w' => e = .returned (.tuple #[.int .i64 0, .bool false]) ∧ w = w' := by
  obtain ⟨A, c, h1, h2⟩ := h
  have c1 := h1.cell 1
  simp at c1
  go_enter Try.func30, Try.ntmps30
  go_wp2
  go_ret2
  exact ⟨rfl, rfl⟩
theorem refl_newest_some {w : World} {b g N n : Nat} {x : Int} {xs : List Int} (h : RefL w b g N xs) (hlen : xs.length = n + 1) (hn : n ≤ 1000000) (hx : xs[n]? = some x) :
    Calls Try.prog 30 #[.pointer (some ⟨g, 0, none⟩)] w fun e w' => e = .returned (.tuple #[.int .i64 x, .bool true]) ∧ ∃ q, w' = w.drewN q := by
  obtain ⟨A, c, h1, h2⟩ := h
  rw [hlen] at h1 h2
  have c1 := h1.cell 1
  simp at c1
  obtain ⟨ad, y, rfl, _, hy, hc⟩ := reads_int (Reads.of_own h2) (k := n) (by omega)
  rw [hx] at hy
  injection hy with hy
  subst hy
  have hz : ((n : Int) + 1 == 0) = false := by simp; omega
  have y1 : IntKind.i64.wrap ((n : Int) + 1 - 1) = (n : Int) := by rw [show (n : Int) + 1 - 1 = n by omega]; exact IntWalk.i64_in _ (by omega)
  have Hlen := Lib.hid hlen
  have Hx := Lib.hid hx
  clear hlen hx
  go_enter Try.func30, Try.ntmps30
  go_wp2
  go_quiet (fail)
  go_wp2
  go_ret2
  exact ⟨rfl, _, rfl⟩

set_option maxRecDepth 1000000 in
theorem refl_has {w : World} {b g N : Nat} {xs : List Int} (h : RefL w b g N xs) (hn : xs.length ≤ 1000000) (p : Int) :
    Calls Try.prog 23 #[.pointer (some ⟨g, 0, none⟩), .int .i64 p] w fun e w' => e = .returned (.bool (decide (p ∈ xs))) ∧ w = w' := by
  obtain ⟨A, c, h1, h2⟩ := h
  have c1 := h1.cell 1
  simp at c1
  have hrow := Reads.of_own h2
  go_enter Try.func23, Try.ntmps23
  go_wp2_with fail
  go_loop [5] (fun i => ∃ k : Nat, k ≤ xs.length ∧ i = .int .i64 k ∧ Hid (p ∉ xs.take k)) (fun i => xs.length - (intOf i).toNat)
  case atStart => exact ⟨0, by omega, rfl, Lib.hid (by simp)⟩
  case round =>
    obtain ⟨k, hk, rfl, hnot⟩ := hrel
    by_cases hlt : k < xs.length
    · obtain ⟨ad, x, rfl, had, hxk, hcx⟩ := reads_int hrow hlt
      by_cases hxp : x = p
      · have hin : decide (p ∈ xs) = true := decide_eq_true (hxp ▸ List.mem_of_getElem? hxk)
        have Hin := Lib.hid hin
        subst hxp
        clear hin hxk
        go_wp2_with fail
        go_ret
        exact ⟨ret_bool Hin.out.symm, rfl⟩
      · have hnext : p ∉ xs.take (k + 1) := by
          rw [List.take_add_one, hxk]
          intro hm
          rcases List.mem_append.1 hm with hm | hm
          · exact hnot.out hm
          · simp at hm
            exact hxp hm.symm
        have Hnext := Lib.hid hnext
        have hb0 : (x == p) = false := by simp [hxp]
        clear hnext hxk hxp
        go_wp2_with fail
        go_round
        case rel => exact ⟨k + 1, by omega, by go_num, Hnext⟩
        case measure => simp [intOf]; omega
    · obtain rfl : xs.length = k := by omega
      have hin : decide (p ∈ xs) = false := decide_eq_false (by have := hnot.out; rwa [List.take_of_length_le (Nat.le_refl _)] at this)
      have Hin := Lib.hid hin
      clear hin
      go_wp2_with fail
      go_ret
      exact ⟨ret_bool Hin.out.symm, rfl⟩

set_option maxRecDepth 1000000 in
set_option maxHeartbeats 6400000 in
theorem refl_copy {w : World} {b g N : Nat} {xs : List Int} (h : RefL w b g N xs) (hn : xs.length ≤ 1000000) :
    Calls Try.prog 22 #[.pointer (some ⟨g, 0, none⟩)] w fun e w' => ∃ g', e = .returned (.pointer (some ⟨g', 0, none⟩)) ∧ w.heap.size ≤ g' ∧ RefL w' w.heap.size g' N xs ∧ Still w w' := by
  obtain ⟨A, c, h1, h2⟩ := h
  have c0 := h1.cell 0
  have c1 := h1.cell 1
  simp at c0 c1
  obtain ⟨i0, hi, hz0, hz1, hz2⟩ := info_parts info_int
  have hown0 := World.ownsRow_made (base := w.heap.size) (e := 3) (size := 1) w #[] 0 (Nat.le_refl _) (by unfold maxLen; omega) rfl
  have hra := (Reads.of_own h2).alloc (Nat.le_refl _) (.cells #[] 3)
  have hgw := h1.lt
  go_enter Try.func22, Try.ntmps22
  go_wp2_with fail
  go_region_held3 (fun w' => w'.cell? ⟨g, 0, none⟩ = some (.int .i64 N) ∧ w'.cell? ⟨g, 1, none⟩ = some (.slice A xs.length c))
    (first
      | go_keep
      | (go_split_ands
         refine ⟨?_, ?_⟩
         · (rw [hgrow.cell_far _ (by simp; omega) (by simp [Value.ownBlock]; omega)]; assumption)
         · (rw [hgrow.cell_far _ (by simp; omega) (by simp [Value.ownBlock]; omega)]; assumption)))
    ((refine step_append_any _ (by rfl) (.tmp 7) (.tmp 11) 36 (by rfl) w.heap.size 3 i0 (.int .i64 0) 1 8 Try.underlying36 hi hz0 hz1 hz2 rfl (by decide) _ 0 [] (by rfl) hown0.drew w.heap.size A xs.length c _ (by rfl) hra.drew ?_ ?_ ?_ ?_ ?_; (intro u hu; simp at hu; obtain ⟨x, _, rfl⟩ := hu; rfl); (unfold maxLen; omega); omega; simp; intro v' w1 hown1 hgrow hat; simp only [Nat.zero_add, List.nil_append] at hown1; obtain ⟨A', c', rfl⟩ := own_shape hown1))
  go_wp2
  go_ret
  have hs1 : Still w w1 := ((Still.new w (.cells #[] 3)).drew).grown hgrow (fun k hk => .inr (by simp [Value.ownBlock] at hk; omega))
  exact ⟨_, rfl, hs1.size, ⟨A', c', Blk.new _ _ _, hown1.alloc _⟩, hs1.alloc _⟩
end Go.Proofs.Ytfbknjboceheaaa
