/-
  Package name: the reader of a name's text.
-/
import Derived.Test.YtjenabcjikdnaaaNameJoin
import Derived.Test.YtjenabcjikdnaaaStepApp
import Derived.Test.YtjenabcjikdnaaaTake
namespace Go.Proofs.Ytjenabcjikdnaaa
open Go.RowKit
set_option linter.unusedVariables false
set_option linter.unusedSimpArgs false

/-- What was read of a text. -/
structure St where
  ls : List Lab
  lab : Lab
  sl : Bool
  d : Nat
  code : Nat
def stepE (s : St) (r : Nat) : Option St :=
  if 48 ≤ r ∧ r ≤ 57 then
    (if s.d + 1 < 3 then some ⟨s.ls, s.lab, true, s.d + 1, 10 * s.code + (r - 48)⟩
    else if 255 < 10 * s.code + (r - 48) then none
    else some ⟨s.ls, s.lab ++ [UInt8.ofNat (10 * s.code + (r - 48))], false, 0, 0⟩)
  else if 0 < s.d then none
  else some ⟨s.ls, s.lab ++ [UInt8.ofNat r], false, 0, 0⟩
def step (s : St) (r : Nat) : Option St :=
  if r < 33 ∨ 126 < r then none
  else if s.sl = true then stepE s r
  else if r = 92 then some ⟨s.ls, s.lab, true, s.d, s.code⟩
  else if r = 46 then (if s.lab.length = 0 then none else some ⟨s.ls ++ [s.lab], [], s.sl, s.d, s.code⟩)
  else some ⟨s.ls, s.lab ++ [UInt8.ofNat r], s.sl, s.d, s.code⟩
def okSt (s : St) : Prop := (s.sl = false ∧ s.d = 0 ∧ s.code = 0) ∨ (s.sl = true ∧ ((s.d = 0 ∧ s.code = 0) ∨ (s.d = 1 ∧ s.code ≤ 9) ∨ (s.d = 2 ∧ s.code ≤ 99)))
theorem okSt.le {s : St} (h : okSt s) : s.d ≤ 2 ∧ s.code ≤ 99 := by unfold okSt at h; omega
theorem stepE_ok {s t : St} {r : Nat} (h : okSt s) (hs : s.sl = true) (e : stepE s r = some t) : okSt t := by
  unfold stepE at e
  unfold okSt at *
  by_cases h1 : 48 ≤ r ∧ r ≤ 57
  · rw [if_pos h1] at e
    by_cases h2 : s.d + 1 < 3
    · rw [if_pos h2] at e
      cases e
      right
      refine ⟨rfl, ?_⟩
      show (s.d + 1 = 0 ∧ _) ∨ (s.d + 1 = 1 ∧ 10 * s.code + (r - 48) ≤ 9) ∨ (s.d + 1 = 2 ∧ 10 * s.code + (r - 48) ≤ 99)
      rw [hs] at h
      simp at h
      omega
    · rw [if_neg h2] at e
      by_cases h3 : 255 < 10 * s.code + (r - 48)
      · rw [if_pos h3] at e; cases e
      · rw [if_neg h3] at e; cases e; exact .inl ⟨rfl, rfl, rfl⟩
  · rw [if_neg h1] at e
    by_cases h2 : 0 < s.d
    · rw [if_pos h2] at e; cases e
    · rw [if_neg h2] at e; cases e; exact .inl ⟨rfl, rfl, rfl⟩
theorem step_ok {s t : St} {r : Nat} (h : okSt s) (e : step s r = some t) : okSt t := by
  unfold step at e
  by_cases h1 : r < 33 ∨ 126 < r
  · rw [if_pos h1] at e; cases e
  · rw [if_neg h1] at e
    by_cases h2 : s.sl = true
    · rw [if_pos h2] at e; exact stepE_ok h h2 e
    · rw [if_neg h2] at e
      have h0 : s.sl = false := by cases hsl : s.sl with | false => rfl | true => exact absurd hsl h2
      have hd : s.d = 0 ∧ s.code = 0 := by unfold okSt at h; rw [h0] at h; simpa using h
      by_cases h3 : r = 92
      · rw [if_pos h3] at e; cases e; exact .inr ⟨rfl, .inl hd⟩
      · rw [if_neg h3] at e
        by_cases h4 : r = 46
        · rw [if_pos h4] at e
          by_cases h5 : s.lab.length = 0
          · rw [if_pos h5] at e; cases e
          · rw [if_neg h5] at e; cases e; exact .inl ⟨h0, hd⟩
        · rw [if_neg h4] at e; cases e; exact .inl ⟨h0, hd⟩
theorem step_len {s t : St} {r : Nat} (e : step s r = some t) : t.lab.length ≤ s.lab.length + 1 ∧ t.ls.length ≤ s.ls.length + 1 := by
  unfold step stepE at e
  (repeat' split at e) <;> first | (cases e; simp; done) | (cases e; simp; omega) | (cases e)

/-- The reader in block b, as it stands. -/
structure Rdr (w : World) (b base : Nat) (s : St) : Prop where
  lt : b < base
  le : base ≤ w.heap.size
  ok : okSt s
  row : ∃ v1 v2, Blk w b 47 #[v1, v2, .bool s.sl, .int .i64 s.d, .int .i64 s.code] ∧ w.ownsRow base 9 1 v1 s.ls.length (sv s.ls) ∧ w.ownsRow base 5 1 v2 s.lab.length (bv s.lab)
abbrev Fr (b base : Nat) : Nat → Prop := fun k => k = b ∨ base ≤ k
theorem own_own_ne {w : World} {base base' : Nat} {e e' : TypeId} {size size' n n' : Nat} {v v' : Value} {xs xs' : List Value} (h : w.ownsRow base e size v n xs) (h' : w.ownsRow base' e' size' v' n' xs') (hne : e ≠ e') (k : Nat) (h1 : v.ownBlock = some k) : v'.ownBlock ≠ some k := by
  intro h2
  rcases h.2 with ⟨rfl, _⟩ | ⟨g, cap, cur, rfl, _, hh, _⟩
  · simp [Value.ownBlock] at h1
  · rcases h'.2 with ⟨rfl, _⟩ | ⟨g', cap', cur', rfl, _, hh', _⟩
    · simp [Value.ownBlock] at h2
    · have e1 : g = k := by simpa [Value.ownBlock] using h1
      have e2 : g' = k := by simpa [Value.ownBlock] using h2
      subst e1; subst e2
      rw [hh] at hh'
      injection hh' with hh'
      injection hh' with _ ht
      exact hne ht
theorem blk5 {w : World} {g : Nat} {t : TypeId} {v0 v1 v2 v3 v4 : Value} (h : Blk w g t #[v0, v1, v2, v3, v4]) :
    w.cell? ⟨g, 0, none⟩ = some v0 ∧ w.cell? ⟨g, 1, none⟩ = some v1 ∧ w.cell? ⟨g, 2, none⟩ = some v2 ∧ w.cell? ⟨g, 3, none⟩ = some v3 ∧ w.cell? ⟨g, 4, none⟩ = some v4 := by
  have c0 := h.cell 0
  have c1 := h.cell 1
  have c2 := h.cell 2
  have c3 := h.cell 3
  have c4 := h.cell 4
  simp at c0 c1 c2 c3 c4
  exact ⟨c0, c1, c2, c3, c4⟩
theorem frz5 {w : World} {g : Nat} {t : TypeId} {cs : Array Value} (h : Blk w g t cs) : w.frozen? ⟨g, 0, none⟩ = false ∧ w.frozen? ⟨g, 1, none⟩ = false ∧ w.frozen? ⟨g, 2, none⟩ = false ∧ w.frozen? ⟨g, 3, none⟩ = false ∧ w.frozen? ⟨g, 4, none⟩ = false := ⟨h.frozen 0, h.frozen 1, h.frozen 2, h.frozen 3, h.frozen 4⟩

set_option maxRecDepth 1000000 in
set_option maxHeartbeats 3200000 in
theorem takeE_any (b base : Nat) (s : St) (r : Nat) (hs : s.sl = true) (hr : 33 ≤ r ∧ r ≤ 126) (hl : s.lab.length ≤ 1000000) (w : World) (h : Rdr w b base s) :
    Calls Try.prog 49 #[.pointer (some ⟨b, 0, none⟩), .int .i32 (r : Int)] w fun e w' => (Hid (stepE s r = none) ∧ e = .returned (.bool false) ∧ Only (Fr b base) w w') ∨ (∃ t, Hid (stepE s r = some t) ∧ e = .returned (.bool true) ∧ Rdr w' b base t ∧ Only (Fr b base) w w') := by
  obtain ⟨i0, hi, hz0, hz1, hz2⟩ := info_parts info_u8
  have H := Lib.hid h
  obtain ⟨hlt, hle, hok, v1, v2, hB, ho1, ho2⟩ := h
  have hd := hok.le
  have Hok := Lib.hid hok
  have HS := Lib.hid hs
  rw [hs] at hB
  clear hok hs
  obtain ⟨c0, c1, c2, c3, c4⟩ := blk5 hB
  obtain ⟨f0, f1, f2, f3, f4⟩ := frz5 hB
  obtain ⟨A, cA, hv⟩ := own_shape ho1
  subst hv
  obtain ⟨B, cB, hv⟩ := own_shape ho2
  subst hv
  go_enter Try.func49, Try.ntmps49
  by_cases h1 : 48 ≤ r ∧ r ≤ 57
  · have i1 : (48 : Int) ≤ (r : Int) := by omega
    have i2 : (r : Int) ≤ 57 := by omega
    obtain ⟨C, hC⟩ : ∃ C, C = 10 * s.code + (r - 48) := ⟨_, rfl⟩
    obtain ⟨D, hD⟩ : ∃ D, D = s.d + 1 := ⟨_, rfl⟩
    have y1 : IntKind.i64.wrap (10 * (s.code : Int)) = 10 * (s.code : Int) := IntWalk.i64_in _ (by omega)
    have y2 : IntKind.i32.wrap ((r : Int) - 48) = (r : Int) - 48 := IntWalk.i32_in _ (by omega)
    have y3 : IntKind.i64.wrap ((r : Int) - 48) = (r : Int) - 48 := IntWalk.i64_in _ (by omega)
    have y4 : IntKind.i64.wrap (10 * (s.code : Int) + ((r : Int) - 48)) = (C : Int) := by rw [IntWalk.i64_in _ (by omega)]; omega
    have y5 : IntKind.i64.wrap ((s.d : Int) + 1) = (D : Int) := by rw [IntWalk.i64_in _ (by omega)]; omega
    have hE : stepE s r = if D < 3 then some ⟨s.ls, s.lab, true, D, C⟩ else if 255 < C then none else some ⟨s.ls, s.lab ++ [UInt8.ofNat C], false, 0, 0⟩ := by
      unfold stepE
      rw [if_pos h1, ← hC, ← hD]
    have HE := Lib.hid hE
    have hCr : C ≤ 1000 := by omega
    have HC := Lib.hid hC
    have HD := Lib.hid hD
    have hB1 := (hB.set_ 4 (.int .i64 C)).set_ 3 (.int .i64 D)
    simp at hB1
    have hoB : Only (· = b) w ((w.setCell ⟨b, 4, none⟩ (.int .i64 C)).setCell ⟨b, 3, none⟩ (.int .i64 D)) := ((Only.refl (· = b) w).setCell (p := ⟨b, 4, none⟩) (.inl rfl) _).setCell (p := ⟨b, 3, none⟩) (.inl rfl) _
    have ho1' := own_only ho1 hoB (fun k hk e => by
      have e' : k = b := e
      subst e'
      exact own_blk_ne ho1 hB (by decide) hk)
    have ho2' := own_only ho2 hoB (fun k hk e => by
      have e' : k = b := e
      subst e'
      exact own_blk_ne ho2 hB (by decide) hk)
    have hoF : Only (Fr b base) w ((w.setCell ⟨b, 4, none⟩ (.int .i64 C)).setCell ⟨b, 3, none⟩ (.int .i64 D)) := hoB.mono (fun _ _ e => .inl e)
    clear hC hD hE h1 hB ho1 ho2
    by_cases h2 : D < 3
    · have i3 : (D : Int) < 3 := by omega
      have hst : stepE s r = some ⟨s.ls, s.lab, true, D, C⟩ := by rw [HE.out, if_pos h2]
      have hok' := stepE_ok Hok.out HS.out hst
      have Hst := Lib.hid hst
      have hR : Rdr ((w.setCell ⟨b, 4, none⟩ (.int .i64 C)).setCell ⟨b, 3, none⟩ (.int .i64 D)) b base ⟨s.ls, s.lab, true, D, C⟩ := ⟨hlt, Nat.le_trans hle hoB.size, hok', _, _, hB1, ho1', ho2'⟩
      have HR := Lib.hid hR
      clear hB1 ho1' ho2' hoB hst hR
      go_wp2_with fail
      go_ret
      exact .inr ⟨_, Hst, rfl, HR.out, hoF⟩
    · have i3 : ¬ (D : Int) < 3 := by omega
      by_cases h3 : 255 < C
      · have i4 : (255 : Int) < (C : Int) := by omega
        have hst : stepE s r = none := by rw [HE.out, if_neg h2, if_pos h3]
        have Hst := Lib.hid hst
        clear hB1 ho1' ho2' hoB hst
        go_wp2_with fail
        go_ret
        first | exact .inl ⟨Hst, rfl, hoF⟩ | exact .inl ⟨rfl, hoF⟩
      · have i4 : ¬ (255 : Int) < (C : Int) := by omega
        have hst : stepE s r = some ⟨s.ls, s.lab ++ [UInt8.ofNat C], false, 0, 0⟩ := by rw [HE.out, if_neg h2, if_neg h3]
        have hok' := stepE_ok Hok.out HS.out hst
        have Hst := Lib.hid hst
        have Hok' := Lib.hid hok'
        have yC : IntKind.u8.wrap (C : Int) = (C : Int) := IntWalk.u8_in _ (by omega)
        have HCb : Hid (((UInt8.ofNat C).toNat : Int) = (C : Int)) := Lib.hid (by simp [UInt8.toNat_ofNat']; omega)
        clear hst hok' hoB
        go_wp2_with fail
        generalize hwW : (w.setCell ⟨b, 4, none⟩ (.int .i64 C)).setCell ⟨b, 3, none⟩ (.int .i64 D) = w1 at *
        clear hwW c0 c1 c2 c3 c4 f0 f1 f2 f3 f4
        obtain ⟨w2, hw2⟩ : ∃ w2, w2 = w1.drew := ⟨_, rfl⟩
        have hs12 : Still w1 w2 := by rw [hw2]; exact (Only.refl _ _).drew
        obtain ⟨c0, c1, c2, c3, c4⟩ := blk5 hB1
        refine wp_region_held_drew (S := fun w' => w'.cell? ⟨b, 4, none⟩ = some (.int .i64 C) ∧ Only (Fr b base) w1.drew w') (by kernel_rfl) ⟨c4, Only.refl _ _⟩ (fun hS => ?_)
        rw [← hw2] at hS ⊢
        have hB2 := hB1.only hs12 (fun h => h)
        have oa2 := own_only ho1' hs12 (fun _ _ h => h)
        have ob2 := own_only ho2' hs12 (fun _ _ h => h)
        have hF2 := hoF.still hs12
        have hsz2 := hF2.size
        clear hw2 hB1 ho1' ho2' hoF c0 c1 c2 c3 c4
        obtain ⟨c0, c1, c2, c3, c4⟩ := blk5 hB2
        (refine take_p (i := 0) (v := ?_) rfl (by kernel_rfl) (by kernel_rfl) (by kernel_rfl) (fun _ _ _ h => h) (Or.inl ⟨by rfl, ?_⟩) hS ?_; rotate_left; (focus (intro w0 hSw; go_simp; try with_reducible rfl)); try simp only [Act.put, List.setIfInBounds_toArray, List.set_cons_zero, List.set_cons_succ])
        (refine take_p (i := 1) (v := ?_) rfl (by kernel_rfl) (by kernel_rfl) (by kernel_rfl) (fun _ _ _ h => h) (Or.inl ⟨by rfl, ?_⟩) hS ?_; rotate_left; (focus (intro w0 hSw; go_simp; try with_reducible rfl)); try simp only [Act.put, List.setIfInBounds_toArray, List.set_cons_zero, List.set_cons_succ])
        (refine take_p (i := 2) (v := ?_) rfl (by kernel_rfl) (by kernel_rfl) (by kernel_rfl) (fun _ _ _ h => h) (Or.inl ⟨by rfl, ?_⟩) hS ?_; rotate_left; (focus (intro w0 hSw; go_simp; try with_reducible rfl)); try simp only [Act.put, List.setIfInBounds_toArray, List.set_cons_zero, List.set_cons_succ])
        (refine take_p (i := 3) (v := ?_) rfl (by kernel_rfl) (by kernel_rfl) (by kernel_rfl) (fun _ _ _ h => h) (Or.inl ⟨by rfl, ?_⟩) hS ?_; rotate_left; (focus (intro w0 hSw; go_simp; try with_reducible rfl)); try simp only [Act.put, List.setIfInBounds_toArray, List.set_cons_zero, List.set_cons_succ])
        (refine take_p (i := 5) (v := ?_) rfl (by kernel_rfl) (by kernel_rfl) (by kernel_rfl) (fun _ _ _ h => h) (Or.inl ⟨by rfl, ?_⟩) hS ?_; rotate_left; (focus (intro w0 hSw; go_simp; try with_reducible rfl)); try simp only [Act.put, List.setIfInBounds_toArray, List.set_cons_zero, List.set_cons_succ])
        (refine take_p (i := 6) (v := ?_) rfl (by kernel_rfl) (by kernel_rfl) (by kernel_rfl) (fun _ _ _ h => h) (Or.inl ⟨by rfl, ?_⟩) hS ?_; rotate_left; (focus (intro w0 hSw; go_simp; try with_reducible rfl)); try simp only [Act.put, List.setIfInBounds_toArray, List.set_cons_zero, List.set_cons_succ])
        (refine take_p (i := 7) (v := ?_) rfl (by kernel_rfl) (by kernel_rfl) (by kernel_rfl) (fun _ _ _ h => h) (Or.inl ⟨by rfl, ?_⟩) hS ?_; rotate_left; (focus (intro w0 hSw; go_simp; try with_reducible rfl)); try simp only [Act.put, List.setIfInBounds_toArray, List.set_cons_zero, List.set_cons_succ])
        (refine take_p (i := 8) (v := ?_) rfl (by kernel_rfl) (by kernel_rfl) (by kernel_rfl) (fun _ _ _ h => h) (Or.inl ⟨by rfl, ?_⟩) hS ?_; rotate_left; (focus (intro w0 hSw; have q_ := hSw.1; go_simp; try with_reducible rfl)); try simp only [Act.put, List.setIfInBounds_toArray, List.set_cons_zero, List.set_cons_succ])
        (refine take_p (i := 9) (v := ?_) rfl (by kernel_rfl) (by kernel_rfl) (by kernel_rfl) (fun _ _ _ h => h) (Or.inl ⟨by rfl, ?_⟩) hS ?_; rotate_left; (focus (intro w0 hSw; go_simp; try with_reducible rfl)); try simp only [Act.put, List.setIfInBounds_toArray, List.set_cons_zero, List.set_cons_succ])
        have hs23 := Still.new w2 (.cells #[.int .u8 (C : Int)] 5)
        have hB3 := hB2.only hs23 (fun h => h)
        have oa3 := own_only oa2 hs23 (fun _ _ h => h)
        have ob3 := own_only ob2 hs23 (fun _ _ h => h)
        have hrd := Reads.of_own (World.ownsRow_lit (e := 5) (size := 1) (base := 0) w2 #[.int .u8 (C : Int)] 1 (Nat.zero_le _) (by unfold maxLen; omega) rfl)
        have hz3 : (w2.alloc (.cells #[.int .u8 (C : Int)] 5)).heap.size = w2.heap.size + 1 := by simp
        have hF3 := hF2.still hs23
        have hSx : (fun w' => w'.cell? ⟨b, 4, none⟩ = some (.int .i64 C) ∧ Only (Fr b base) w2 w') (w2.alloc (.cells #[.int .u8 (C : Int)] 5)) := ⟨(blk5 hB3).2.2.2.2, Only.of_still hs23 _⟩
        obtain ⟨w3, hw3⟩ : ∃ w3, w3 = w2.alloc (.cells #[.int .u8 (C : Int)] 5) := ⟨_, rfl⟩
        have Hw3 := Lib.hid hw3
        rw [← hw3] at hB3 oa3 ob3 hrd hz3 hF3 hSx
        clear hw3 hs23
        refine wpAnyH_ready (rs := [4, 10]) (by kernel_rfl) (by simp) ?_
        refine cons_p rfl (fun K_ hK => ?_) (cons_p rfl (fun K_ hK => ?_) AllReadyH.nil)
        · go_simp
          refine hK.out _ _ hS (fun hHeld => ?_)
          clear hK K_ hHeld
          try simp only [Act.put, List.setIfInBounds_toArray, List.set_cons_zero, List.set_cons_succ]
          refine wpAnyH_ready (rs := [10]) (by kernel_rfl) (by simp) ?_
          refine cons_p rfl (fun K_ hK => ?_) AllReadyH.nil
          go_simp
          rw [← Hw3.out]
          refine hK.out _ _ hSx (fun hHeld => ?_)
          clear hK K_ hHeld
          try simp only [Act.put, List.setIfInBounds_toArray, List.set_cons_zero, List.set_cons_succ]
          refine wpAnyH_ready (rs := [11]) (by kernel_rfl) (by simp) ?_
          refine cons_p rfl (fun K_ hK => ?_) AllReadyH.nil
          refine step_append_any rfl (.tmp 58) (.tmp 64) 42 rfl base 5 i0 (.int .u8 0) 1 1 Try.underlying42 hi hz0 hz1 hz2 rfl (by decide) _ _ _ rfl ob3 _ (some _) 1 1 [.int .u8 (C : Int)] rfl hrd (by first | rfl | (intro u hu; simp at hu; subst hu; rfl)) (by unfold maxLen; omega) (by omega) (by omega) ?_
          intro v' wg hown' hgrow hblk
          obtain ⟨A', c', hv⟩ := own_shape hown'
          subst hv
          have hog : Only (fun k => base ≤ k) w3 wg := (Only.refl _ _).grown hgrow (fun k hk => .inl (ob3.lt k hk).1)
          have hBg := hB3.only hog (by omega)
          have oag := own_only oa3 (show Only (fun k => (Value.slice B s.lab.length cB).ownBlock = some k ∨ w3.heap.size ≤ k) w3 wg from (Only.refl _ _).grown hgrow (fun k hk => .inl (.inl hk))) (fun k hk e => by
            rcases e with e | e
            · exact own_own_ne oa3 ob3 (by decide) k hk e
            · have := (oa3.lt k hk).2
              omega)
          have hSg : (fun w' => w'.cell? ⟨b, 4, none⟩ = some (.int .i64 C) ∧ Only (Fr b base) w2 w') wg := ⟨(blk5 hBg).2.2.2.2, hSx.2.trans hog (fun i _ h => .inr h)⟩
          have hBf := hBg.set_ 1 (.slice A' (s.lab.length + 1) c')
          simp at hBf
          have hos : Only (· = b) wg (wg.setCell ⟨b, 1, none⟩ (.slice A' (s.lab.length + 1) c')) := (Only.refl (· = b) wg).setCell (p := ⟨b, 1, none⟩) (.inl rfl) _
          have oaf := own_only oag hos (fun k hk e => by
            have e' : k = b := e
            subst e'
            exact own_blk_ne oag hBg (by decide) hk)
          have obf := own_only hown' hos (fun k hk e => by
            have e' : k = b := e
            subst e'
            exact own_blk_ne hown' hBg (by decide) hk)
          have hSf : (fun w' => w'.cell? ⟨b, 4, none⟩ = some (.int .i64 C) ∧ Only (Fr b base) w2 w') (wg.setCell ⟨b, 1, none⟩ (.slice A' (s.lab.length + 1) c')) := ⟨(blk5 hBf).2.2.2.2, hSg.2.trans hos (fun i _ h => .inl h)⟩
          have hFf := (hF3.trans hog (fun i _ h => .inr h)).trans hos (fun i _ h => .inl h)

          refine hK.out _ _ hSg (fun hHeld => ?_)
          clear hK K_ hHeld
          try simp only [Act.put, List.setIfInBounds_toArray, List.set_cons_zero, List.set_cons_succ]
          replace hS := hSg
          (refine take_p (i := 12) (v := ?_) rfl (by kernel_rfl) (by kernel_rfl) (by kernel_rfl) (fun _ _ _ h => h) (Or.inl ⟨by rfl, ?_⟩) hS ?_; rotate_left; (focus (intro w0 hSw; go_simp; try with_reducible rfl)); try simp only [Act.put, List.setIfInBounds_toArray, List.set_cons_zero, List.set_cons_succ])
          (refine take_p (i := 13) (v := ?_) rfl (by kernel_rfl) (by kernel_rfl) (by kernel_rfl) (fun _ _ _ h => h) (Or.inl ⟨by rfl, ?_⟩) hS ?_; rotate_left; (focus (intro w0 hSw; go_simp; try with_reducible rfl)); try simp only [Act.put, List.setIfInBounds_toArray, List.set_cons_zero, List.set_cons_succ])
          obtain ⟨e0, e1, e2, e3, e4⟩ := blk5 hBg
          obtain ⟨g0, g1, g2, g3, g4⟩ := frz5 hBg
          refine wpAnyH_ready (rs := [14]) (by kernel_rfl) (by simp) ?_
          refine cons_p rfl (fun K_ hK => ?_) AllReadyH.nil
          go_simp
          refine hK.out _ _ hSf (fun hHeld => ?_)
          clear hK K_ hHeld
          try simp only [Act.put, List.setIfInBounds_toArray, List.set_cons_zero, List.set_cons_succ]
          refine wpAnyH_done (by kernel_rfl) ?_ _
          clear e0 e1 e2 e3 e4 g0 g1 g2 g3 g4 hS hSx hSg hSf hrd hB3 hBg oa3 ob3 hown' hgrow hblk hog oa2 ob2 hB2 c0 c1 c2 c3 c4
          have hlen : (s.lab ++ [UInt8.ofNat C]).length = s.lab.length + 1 := by simp
          have hrow : bv s.lab ++ [Value.int .u8 (C : Int)] = bv (s.lab ++ [UInt8.ofNat C]) := by
            rw [bv_append, ← HCb.out]
            rfl
          rw [hrow, ← hlen] at obf
          rw [← hlen] at hBf oaf hFf
          have hszf := hFf.size
          rw [← hlen]
          obtain ⟨wf, hwf⟩ : ∃ wf, wf = wg.setCell ⟨b, 1, none⟩ (.slice A' (s.lab ++ [UInt8.ofNat C]).length c') := ⟨_, rfl⟩
          rw [← hwf] at hBf oaf obf hFf hszf ⊢
          clear hwf hrow hlen
          have hBz := ((hBf.set_ 2 (.bool false)).set_ 3 (.int .i64 0)).set_ 4 (.int .i64 0)
          simp at hBz
          have hoz : Only (· = b) wf (((wf.setCell ⟨b, 2, none⟩ (.bool false)).setCell ⟨b, 3, none⟩ (.int .i64 0)).setCell ⟨b, 4, none⟩ (.int .i64 0)) := (((Only.refl (· = b) wf).setCell (p := ⟨b, 2, none⟩) (.inl rfl) _).setCell (p := ⟨b, 3, none⟩) (.inl rfl) _).setCell (p := ⟨b, 4, none⟩) (.inl rfl) _
          have oaz := own_only oaf hoz (fun k hk e => by
            have e' : k = b := e
            subst e'
            exact own_blk_ne oaf hBf (by decide) hk)
          have obz := own_only obf hoz (fun k hk e => by
            have e' : k = b := e
            subst e'
            exact own_blk_ne obf hBf (by decide) hk)
          have hFz := hFf.trans hoz (fun i _ h => .inl h)
          have hR : Rdr (((wf.setCell ⟨b, 2, none⟩ (.bool false)).setCell ⟨b, 3, none⟩ (.int .i64 0)).setCell ⟨b, 4, none⟩ (.int .i64 0)) b base ⟨s.ls, s.lab ++ [UInt8.ofNat C], false, 0, 0⟩ := ⟨hlt, Nat.le_trans hle hFz.size, Hok'.out, _, _, hBz, oaz, (by simpa using obz)⟩
          have HR := Lib.hid hR
          obtain ⟨e0, e1, e2, e3, e4⟩ := blk5 hBf
          obtain ⟨g0, g1, g2, g3, g4⟩ := frz5 hBf
          clear hBz hBf hoz oaz obz oaf obf hR
          go_wp2_with fail
          go_ret
          first | exact .inr ⟨_, Hst, rfl, HR.out, hFz⟩ | exact .inr ⟨_, rfl, HR.out, hFz⟩

        · go_simp
          rw [← Hw3.out]
          refine hK.out _ _ hSx (fun hHeld => ?_)
          clear hK K_ hHeld
          try simp only [Act.put, List.setIfInBounds_toArray, List.set_cons_zero, List.set_cons_succ]
          clear c0 c1 c2 c3 c4
          obtain ⟨c0, c1, c2, c3, c4⟩ := blk5 hB3
          refine wpAnyH_ready (rs := [4]) (by kernel_rfl) (by simp) ?_
          refine cons_p rfl (fun K_ hK => ?_) AllReadyH.nil
          go_simp
          refine hK.out _ _ hSx (fun hHeld => ?_)
          clear hK K_ hHeld
          try simp only [Act.put, List.setIfInBounds_toArray, List.set_cons_zero, List.set_cons_succ]
          refine wpAnyH_ready (rs := [11]) (by kernel_rfl) (by simp) ?_
          refine cons_p rfl (fun K_ hK => ?_) AllReadyH.nil
          refine step_append_any rfl (.tmp 58) (.tmp 64) 42 rfl base 5 i0 (.int .u8 0) 1 1 Try.underlying42 hi hz0 hz1 hz2 rfl (by decide) _ _ _ rfl ob3 _ (some _) 1 1 [.int .u8 (C : Int)] rfl hrd (by first | rfl | (intro u hu; simp at hu; subst hu; rfl)) (by unfold maxLen; omega) (by omega) (by omega) ?_
          intro v' wg hown' hgrow hblk
          obtain ⟨A', c', hv⟩ := own_shape hown'
          subst hv
          have hog : Only (fun k => base ≤ k) w3 wg := (Only.refl _ _).grown hgrow (fun k hk => .inl (ob3.lt k hk).1)
          have hBg := hB3.only hog (by omega)
          have oag := own_only oa3 (show Only (fun k => (Value.slice B s.lab.length cB).ownBlock = some k ∨ w3.heap.size ≤ k) w3 wg from (Only.refl _ _).grown hgrow (fun k hk => .inl (.inl hk))) (fun k hk e => by
            rcases e with e | e
            · exact own_own_ne oa3 ob3 (by decide) k hk e
            · have := (oa3.lt k hk).2
              omega)
          have hSg : (fun w' => w'.cell? ⟨b, 4, none⟩ = some (.int .i64 C) ∧ Only (Fr b base) w2 w') wg := ⟨(blk5 hBg).2.2.2.2, hSx.2.trans hog (fun i _ h => .inr h)⟩
          have hBf := hBg.set_ 1 (.slice A' (s.lab.length + 1) c')
          simp at hBf
          have hos : Only (· = b) wg (wg.setCell ⟨b, 1, none⟩ (.slice A' (s.lab.length + 1) c')) := (Only.refl (· = b) wg).setCell (p := ⟨b, 1, none⟩) (.inl rfl) _
          have oaf := own_only oag hos (fun k hk e => by
            have e' : k = b := e
            subst e'
            exact own_blk_ne oag hBg (by decide) hk)
          have obf := own_only hown' hos (fun k hk e => by
            have e' : k = b := e
            subst e'
            exact own_blk_ne hown' hBg (by decide) hk)
          have hSf : (fun w' => w'.cell? ⟨b, 4, none⟩ = some (.int .i64 C) ∧ Only (Fr b base) w2 w') (wg.setCell ⟨b, 1, none⟩ (.slice A' (s.lab.length + 1) c')) := ⟨(blk5 hBf).2.2.2.2, hSg.2.trans hos (fun i _ h => .inl h)⟩
          have hFf := (hF3.trans hog (fun i _ h => .inr h)).trans hos (fun i _ h => .inl h)

          refine hK.out _ _ hSg (fun hHeld => ?_)
          clear hK K_ hHeld
          try simp only [Act.put, List.setIfInBounds_toArray, List.set_cons_zero, List.set_cons_succ]
          replace hS := hSg
          (refine take_p (i := 12) (v := ?_) rfl (by kernel_rfl) (by kernel_rfl) (by kernel_rfl) (fun _ _ _ h => h) (Or.inl ⟨by rfl, ?_⟩) hS ?_; rotate_left; (focus (intro w0 hSw; go_simp; try with_reducible rfl)); try simp only [Act.put, List.setIfInBounds_toArray, List.set_cons_zero, List.set_cons_succ])
          (refine take_p (i := 13) (v := ?_) rfl (by kernel_rfl) (by kernel_rfl) (by kernel_rfl) (fun _ _ _ h => h) (Or.inl ⟨by rfl, ?_⟩) hS ?_; rotate_left; (focus (intro w0 hSw; go_simp; try with_reducible rfl)); try simp only [Act.put, List.setIfInBounds_toArray, List.set_cons_zero, List.set_cons_succ])
          obtain ⟨e0, e1, e2, e3, e4⟩ := blk5 hBg
          obtain ⟨g0, g1, g2, g3, g4⟩ := frz5 hBg
          refine wpAnyH_ready (rs := [14]) (by kernel_rfl) (by simp) ?_
          refine cons_p rfl (fun K_ hK => ?_) AllReadyH.nil
          go_simp
          refine hK.out _ _ hSf (fun hHeld => ?_)
          clear hK K_ hHeld
          try simp only [Act.put, List.setIfInBounds_toArray, List.set_cons_zero, List.set_cons_succ]
          refine wpAnyH_done (by kernel_rfl) ?_ _
          clear e0 e1 e2 e3 e4 g0 g1 g2 g3 g4 hS hSx hSg hSf hrd hB3 hBg oa3 ob3 hown' hgrow hblk hog oa2 ob2 hB2 c0 c1 c2 c3 c4
          have hlen : (s.lab ++ [UInt8.ofNat C]).length = s.lab.length + 1 := by simp
          have hrow : bv s.lab ++ [Value.int .u8 (C : Int)] = bv (s.lab ++ [UInt8.ofNat C]) := by
            rw [bv_append, ← HCb.out]
            rfl
          rw [hrow, ← hlen] at obf
          rw [← hlen] at hBf oaf hFf
          have hszf := hFf.size
          rw [← hlen]
          obtain ⟨wf, hwf⟩ : ∃ wf, wf = wg.setCell ⟨b, 1, none⟩ (.slice A' (s.lab ++ [UInt8.ofNat C]).length c') := ⟨_, rfl⟩
          rw [← hwf] at hBf oaf obf hFf hszf ⊢
          clear hwf hrow hlen
          have hBz := ((hBf.set_ 2 (.bool false)).set_ 3 (.int .i64 0)).set_ 4 (.int .i64 0)
          simp at hBz
          have hoz : Only (· = b) wf (((wf.setCell ⟨b, 2, none⟩ (.bool false)).setCell ⟨b, 3, none⟩ (.int .i64 0)).setCell ⟨b, 4, none⟩ (.int .i64 0)) := (((Only.refl (· = b) wf).setCell (p := ⟨b, 2, none⟩) (.inl rfl) _).setCell (p := ⟨b, 3, none⟩) (.inl rfl) _).setCell (p := ⟨b, 4, none⟩) (.inl rfl) _
          have oaz := own_only oaf hoz (fun k hk e => by
            have e' : k = b := e
            subst e'
            exact own_blk_ne oaf hBf (by decide) hk)
          have obz := own_only obf hoz (fun k hk e => by
            have e' : k = b := e
            subst e'
            exact own_blk_ne obf hBf (by decide) hk)
          have hFz := hFf.trans hoz (fun i _ h => .inl h)
          have hR : Rdr (((wf.setCell ⟨b, 2, none⟩ (.bool false)).setCell ⟨b, 3, none⟩ (.int .i64 0)).setCell ⟨b, 4, none⟩ (.int .i64 0)) b base ⟨s.ls, s.lab ++ [UInt8.ofNat C], false, 0, 0⟩ := ⟨hlt, Nat.le_trans hle hFz.size, Hok'.out, _, _, hBz, oaz, (by simpa using obz)⟩
          have HR := Lib.hid hR
          obtain ⟨e0, e1, e2, e3, e4⟩ := blk5 hBf
          obtain ⟨g0, g1, g2, g3, g4⟩ := frz5 hBf
          clear hBz hBf hoz oaz obz oaf obf hR
          go_wp2_with fail
          go_ret
          first | exact .inr ⟨_, Hst, rfl, HR.out, hFz⟩ | exact .inr ⟨_, rfl, HR.out, hFz⟩

  · have hE : stepE s r = if 0 < s.d then none else some ⟨s.ls, s.lab ++ [UInt8.ofNat r], false, 0, 0⟩ := by
      unfold stepE
      rw [if_neg h1]
    have HE := Lib.hid hE
    clear hE
    have h1' : r < 48 ∨ 57 < r := by omega
    clear h1
    by_cases h2 : 0 < s.d
    · have i3 : (0 : Int) < (s.d : Int) := by omega
      have hst : stepE s r = none := by rw [HE.out, if_pos h2]
      have Hst := Lib.hid hst
      clear hst hB ho1 ho2
      rcases h1' with h1 | h1
      · have i1 : ¬ (48 : Int) ≤ (r : Int) := by omega
        go_wp2_with fail
        go_ret
        first | exact .inl ⟨Hst, rfl, Only.refl _ _⟩ | exact .inl ⟨rfl, Only.refl _ _⟩
      · have i1 : (48 : Int) ≤ (r : Int) := by omega
        have i2 : ¬ (r : Int) ≤ 57 := by omega
        go_wp2_with fail
        go_ret
        first | exact .inl ⟨Hst, rfl, Only.refl _ _⟩ | exact .inl ⟨rfl, Only.refl _ _⟩
    · have i3 : ¬ (0 : Int) < (s.d : Int) := by omega
      have hst : stepE s r = some ⟨s.ls, s.lab ++ [UInt8.ofNat r], false, 0, 0⟩ := by rw [HE.out, if_neg h2]
      have hok' := stepE_ok Hok.out HS.out hst
      have Hst := Lib.hid hst
      have Hok' := Lib.hid hok'
      have yC : IntKind.u8.wrap (r : Int) = (r : Int) := IntWalk.u8_in _ (by omega)
      have HRb : Hid (((UInt8.ofNat r).toNat : Int) = (r : Int)) := Lib.hid (by simp [UInt8.toNat_ofNat']; omega)
      clear hst hok'
      rcases h1' with h1 | h1
      · have i1 : ¬ (48 : Int) ≤ (r : Int) := by omega
        have hrd := Reads.of_own (World.ownsRow_lit (e := 5) (size := 1) (base := 0) w #[.int .u8 (r : Int)] 1 (Nat.zero_le _) (by unfold maxLen; omega) rfl)
        have hs3 := Still.new w (.cells #[.int .u8 (r : Int)] 5)
        have hB3 := hB.only hs3 (fun h => h)
        have oa3 := own_only ho1 hs3 (fun _ _ h => h)
        have ob3 := own_only ho2 hs3 (fun _ _ h => h)
        have hz3 : (w.alloc (.cells #[.int .u8 (r : Int)] 5)).heap.size = w.heap.size + 1 := by simp
        go_wp2_with (at_builtin; refine wpList_append_any _ rfl (.tmp 16) (.tmp 19) 42 rfl base 5 i0 (.int .u8 0) 1 1 Try.underlying42 hi hz0 hz1 hz2 rfl (by decide) _ _ _ rfl ob3 _ (some _) 1 1 [.int .u8 (r : Int)] rfl hrd (by first | rfl | (intro u hu; simp at hu; subst hu; rfl)) (by unfold maxLen; omega) (by omega) (by omega) ?_)
        intro v' wg hown' hgrow hblk
        obtain ⟨A', c', hv⟩ := own_shape hown'
        subst hv
        have hog : Only (fun k => base ≤ k) (w.alloc (.cells #[.int .u8 (r : Int)] 5)) wg := (Only.refl _ _).grown hgrow (fun k hk => .inl (ob3.lt k hk).1)
        have hBg := hB3.only hog (by omega)
        have oag := own_only oa3 (show Only (fun k => (Value.slice B s.lab.length cB).ownBlock = some k ∨ (w.alloc (.cells #[.int .u8 (r : Int)] 5)).heap.size ≤ k) (w.alloc (.cells #[.int .u8 (r : Int)] 5)) wg from (Only.refl _ _).grown hgrow (fun k hk => .inl (.inl hk))) (fun k hk e => by
          rcases e with e | e
          · exact own_own_ne oa3 ob3 (by decide) k hk e
          · have := (oa3.lt k hk).2
            omega)
        have hBf := ((((hBg.set_ 1 (.slice A' (s.lab.length + 1) c')).set_ 2 (.bool false)).set_ 3 (.int .i64 0)).set_ 4 (.int .i64 0))
        simp at hBf
        have hos : Only (· = b) wg ((((wg.setCell ⟨b, 1, none⟩ (.slice A' (s.lab.length + 1) c')).setCell ⟨b, 2, none⟩ (.bool false)).setCell ⟨b, 3, none⟩ (.int .i64 0)).setCell ⟨b, 4, none⟩ (.int .i64 0)) := (((((Only.refl (· = b) wg).setCell (p := ⟨b, 1, none⟩) (.inl rfl) (.slice A' (s.lab.length + 1) c')).setCell (p := ⟨b, 2, none⟩) (.inl rfl) (.bool false)).setCell (p := ⟨b, 3, none⟩) (.inl rfl) (.int .i64 0)).setCell (p := ⟨b, 4, none⟩) (.inl rfl) (.int .i64 0))
        have oaf := own_only oag hos (fun k hk e => by
          have e' : k = b := e
          subst e'
          exact own_blk_ne oag hBg (by decide) hk)
        have obf := own_only hown' hos (fun k hk e => by
          have e' : k = b := e
          subst e'
          exact own_blk_ne hown' hBg (by decide) hk)
        have hFf := (((Only.refl (Fr b base) w).still hs3).trans hog (fun i _ h => .inr h)).trans hos (fun i _ h => .inl h)
        have hrow : bv s.lab ++ [Value.int .u8 (r : Int)] = bv (s.lab ++ [UInt8.ofNat r]) := by
          rw [bv_append, ← HRb.out]
          rfl
        rw [hrow] at obf
        have hR : Rdr ((((wg.setCell ⟨b, 1, none⟩ (.slice A' (s.lab.length + 1) c')).setCell ⟨b, 2, none⟩ (.bool false)).setCell ⟨b, 3, none⟩ (.int .i64 0)).setCell ⟨b, 4, none⟩ (.int .i64 0)) b base ⟨s.ls, s.lab ++ [UInt8.ofNat r], false, 0, 0⟩ := ⟨hlt, Nat.le_trans hle hFf.size, Hok'.out, _, _, hBf, oaf, (by simpa using obf)⟩
        have HR := Lib.hid hR
        clear c0 c1 c2 c3 c4 f0 f1 f2 f3 f4
        obtain ⟨c0, c1, c2, c3, c4⟩ := blk5 hBg
        obtain ⟨f0, f1, f2, f3, f4⟩ := frz5 hBg
        clear hB hB3 hBg hBf ho1 ho2 oa3 ob3 oag oaf obf hown' hgrow hblk hog hos hrow hR hrd hs3 hz3
        go_wp2_with fail
        go_ret
        first | exact .inr ⟨_, Hst, rfl, HR.out, hFf⟩ | exact .inr ⟨_, rfl, HR.out, hFf⟩
      · have i1 : (48 : Int) ≤ (r : Int) := by omega
        have i2 : ¬ (r : Int) ≤ 57 := by omega
        have hrd := Reads.of_own (World.ownsRow_lit (e := 5) (size := 1) (base := 0) w #[.int .u8 (r : Int)] 1 (Nat.zero_le _) (by unfold maxLen; omega) rfl)
        have hs3 := Still.new w (.cells #[.int .u8 (r : Int)] 5)
        have hB3 := hB.only hs3 (fun h => h)
        have oa3 := own_only ho1 hs3 (fun _ _ h => h)
        have ob3 := own_only ho2 hs3 (fun _ _ h => h)
        have hz3 : (w.alloc (.cells #[.int .u8 (r : Int)] 5)).heap.size = w.heap.size + 1 := by simp
        go_wp2_with (at_builtin; refine wpList_append_any _ rfl (.tmp 16) (.tmp 19) 42 rfl base 5 i0 (.int .u8 0) 1 1 Try.underlying42 hi hz0 hz1 hz2 rfl (by decide) _ _ _ rfl ob3 _ (some _) 1 1 [.int .u8 (r : Int)] rfl hrd (by first | rfl | (intro u hu; simp at hu; subst hu; rfl)) (by unfold maxLen; omega) (by omega) (by omega) ?_)
        intro v' wg hown' hgrow hblk
        obtain ⟨A', c', hv⟩ := own_shape hown'
        subst hv
        have hog : Only (fun k => base ≤ k) (w.alloc (.cells #[.int .u8 (r : Int)] 5)) wg := (Only.refl _ _).grown hgrow (fun k hk => .inl (ob3.lt k hk).1)
        have hBg := hB3.only hog (by omega)
        have oag := own_only oa3 (show Only (fun k => (Value.slice B s.lab.length cB).ownBlock = some k ∨ (w.alloc (.cells #[.int .u8 (r : Int)] 5)).heap.size ≤ k) (w.alloc (.cells #[.int .u8 (r : Int)] 5)) wg from (Only.refl _ _).grown hgrow (fun k hk => .inl (.inl hk))) (fun k hk e => by
          rcases e with e | e
          · exact own_own_ne oa3 ob3 (by decide) k hk e
          · have := (oa3.lt k hk).2
            omega)
        have hBf := ((((hBg.set_ 1 (.slice A' (s.lab.length + 1) c')).set_ 2 (.bool false)).set_ 3 (.int .i64 0)).set_ 4 (.int .i64 0))
        simp at hBf
        have hos : Only (· = b) wg ((((wg.setCell ⟨b, 1, none⟩ (.slice A' (s.lab.length + 1) c')).setCell ⟨b, 2, none⟩ (.bool false)).setCell ⟨b, 3, none⟩ (.int .i64 0)).setCell ⟨b, 4, none⟩ (.int .i64 0)) := (((((Only.refl (· = b) wg).setCell (p := ⟨b, 1, none⟩) (.inl rfl) (.slice A' (s.lab.length + 1) c')).setCell (p := ⟨b, 2, none⟩) (.inl rfl) (.bool false)).setCell (p := ⟨b, 3, none⟩) (.inl rfl) (.int .i64 0)).setCell (p := ⟨b, 4, none⟩) (.inl rfl) (.int .i64 0))
        have oaf := own_only oag hos (fun k hk e => by
          have e' : k = b := e
          subst e'
          exact own_blk_ne oag hBg (by decide) hk)
        have obf := own_only hown' hos (fun k hk e => by
          have e' : k = b := e
          subst e'
          exact own_blk_ne hown' hBg (by decide) hk)
        have hFf := (((Only.refl (Fr b base) w).still hs3).trans hog (fun i _ h => .inr h)).trans hos (fun i _ h => .inl h)
        have hrow : bv s.lab ++ [Value.int .u8 (r : Int)] = bv (s.lab ++ [UInt8.ofNat r]) := by
          rw [bv_append, ← HRb.out]
          rfl
        rw [hrow] at obf
        have hR : Rdr ((((wg.setCell ⟨b, 1, none⟩ (.slice A' (s.lab.length + 1) c')).setCell ⟨b, 2, none⟩ (.bool false)).setCell ⟨b, 3, none⟩ (.int .i64 0)).setCell ⟨b, 4, none⟩ (.int .i64 0)) b base ⟨s.ls, s.lab ++ [UInt8.ofNat r], false, 0, 0⟩ := ⟨hlt, Nat.le_trans hle hFf.size, Hok'.out, _, _, hBf, oaf, (by simpa using obf)⟩
        have HR := Lib.hid hR
        clear c0 c1 c2 c3 c4 f0 f1 f2 f3 f4
        obtain ⟨c0, c1, c2, c3, c4⟩ := blk5 hBg
        obtain ⟨f0, f1, f2, f3, f4⟩ := frz5 hBg
        clear hB hB3 hBg hBf ho1 ho2 oa3 ob3 oag oaf obf hown' hgrow hblk hog hos hrow hR hrd hs3 hz3
        go_wp2_with fail
        go_ret
        first | exact .inr ⟨_, Hst, rfl, HR.out, hFf⟩ | exact .inr ⟨_, rfl, HR.out, hFf⟩
end Go.Proofs.Ytjenabcjikdnaaa
