/-
  hustingsref29: free, Draw, Copy.
-/
import Derived.Test.YthbapdajmpplhaaPendRef
namespace Go.Proofs.Ythbapdajmpplhaa
open Go.RowKit
set_option linter.unusedVariables false
set_option linter.unusedSimpArgs false

theorem info_o : (Try.prog.info? 82).map (fun i => (i.zero, i.size, i.bytes)) = some (some (.agg #[.int .i64 0, .int .i64 0, .int .u16 0]), 3, 24) := by kernel_rfl

def keepR (slot u : Int) (o : Out) : Bool := !decide (o.slot = slot) || (decide (0 ≤ u) && !decide ((o.u : Int) = u))
def freeR (slot u : Int) (L : List Out) : List Out := L.filter (keepR slot u)
theorem freeR_neg (slot : Int) (L : List Out) : freeR slot (-1) L = freeO slot L := by
  unfold freeR freeO
  refine List.filter_congr (fun o _ => ?_)
  unfold keepR
  simp
theorem freeR_at {n : Nat} {L : List Out} (h : Inv n L) (slot u : Int) (hu : 0 ≤ u) : freeR slot u L = freeAtI n slot u L := by
  unfold freeR freeAtI
  by_cases hn : 0 ≤ u ∧ u < n
  · rw [if_pos hn]
    unfold freeAtO
    refine List.filter_congr (fun o _ => ?_)
    unfold keepR
    have : decide ((o.u : Int) = u) = decide (o.u = u.toNat) := by rw [decide_eq_decide]; omega
    rw [this]
    by_cases h1 : o.slot = slot <;> simp [h1, hu]
  · rw [if_neg hn, List.filter_eq_self]
    intro o ho
    have := h.us o ho
    unfold keepR
    have : ¬ (o.u : Int) = u := by omega
    simp [this, hu]
theorem freeR_succ {L : List Out} {k : Nat} {o : Out} (h : L[k]? = some o) (slot u : Int) : freeR slot u (L.take (k + 1)) = freeR slot u (L.take k) ++ if keepR slot u o = true then [o] else [] := by
  obtain ⟨hk, e⟩ := List.getElem?_eq_some_iff.1 h
  unfold freeR
  rw [List.take_succ_eq_append_getElem hk, e, List.filter_append]
  by_cases h : keepR slot u o = true <;> simp [h]
theorem freeR_le (slot u : Int) (L : List Out) : (freeR slot u L).length ≤ L.length := List.length_filter_le _ _
theorem lit3 (w : World) (a b c : Value) : Reads (w.alloc (.cells #[a, b, c] 82)) (w.alloc (.cells #[a, b, c] 82)).heap.size 3 (some ⟨w.heap.size, 0, none⟩) 1 [a, b, c] :=
  Reads.of_own (World.ownsRow_lit (e := 82) (size := 3) (base := 0) w #[a, b, c] 1 (Nat.zero_le _) (by unfold maxLen; omega) rfl)
theorem load_out {w : World} {bl off : Nat} {a b c : Int} (h0 : w.cell? ⟨bl, off, none⟩ = some (.int .i64 a)) (h1 : w.cell? ⟨bl, off + 1, none⟩ = some (.int .i64 b)) (h2 : w.cell? ⟨bl, off + 2, none⟩ = some (.int .u16 c)) :
    (loadVar 82 ⟨bl, off, none⟩).run Try.prog w = .ok (.agg #[.int .i64 a, .int .i64 b, .int .u16 c]) w :=
  run_loadVar_at w bl off _ [.int .i64 a, .int .i64 b, .int .u16 c] _ (cells3 h0 h1 h2) Try.underlying82 rfl (by kernel_rfl)

set_option maxRecDepth 1000000 in
set_option maxHeartbeats 6400000 in
theorem rfree_any {w : World} {x n : Nat} {L : List Out} (h : RT w x n L) (hL : L.length ≤ 100000) (slot u : Int) :
    Calls Try.prog 38 #[.pointer (some ⟨x, 0, none⟩), .int .i64 slot, .int .i64 u] w fun e w' =>
      e = .returned (.int .i64 (L.length - (freeR slot u L).length : Nat)) ∧ RT w' x n (freeR slot u L) ∧ Only (· = x) w w' := by
  obtain ⟨i0, hi, hz0, hz1, hz2⟩ := info_parts info_o
  obtain ⟨A, c, h1, h2⟩ := h.tab
  have c1 := h1.cell 1
  simp at c1
  obtain ⟨m, hm⟩ : ∃ m, m = L.length := ⟨_, rfl⟩
  rw [← hm] at c1 hL
  have hcs : ∀ k o, L[k]? = some o → ∃ g, A = some ⟨g, 0, none⟩ ∧ w.cell? ⟨g, k * 3, none⟩ = some (.int .i64 (o.u : Int)) ∧ w.cell? ⟨g, k * 3 + 1, none⟩ = some (.int .i64 o.slot) ∧ w.cell? ⟨g, k * 3 + 2, none⟩ = some (.int .u16 (o.id : Int)) := fun k o hk => own_cells3 h2 hk
  have Hm := Lib.hid hm
  have HI := Lib.hid h.inv
  have HB := Lib.hid h1
  clear hm h h1 h2
  obtain ⟨q, hq⟩ : ∃ q, q = w.heap.size := ⟨_, rfl⟩
  have Hq := Lib.hid hq
  clear hq
  go_enter Try.func38, Try.ntmps38
  go_wp2_with fail
  go_loopw [7, 8] (fun v i wr => ∃ k A' c', k ≤ m ∧ i = .int .i64 k ∧ v = .slice A' (freeR slot u (L.take k)).length c' ∧ wr.ownsRow q 82 3 (.slice A' (freeR slot u (L.take k)).length c') (freeR slot u (L.take k)).length (otRow (freeR slot u (L.take k))) ∧ Still w wr) (fun _ i _ => m - (intOf i).toNat)
  case atStart => exact ⟨0, none, 0, Nat.zero_le _, rfl, rfl, World.ownsRow_nil _ _ _ _, Only.refl _ _⟩
  case round =>
    obtain ⟨k, A', c', hk, rfl, rfl, hown, hst⟩ := hrel
    have c1' := hst.cell_some (fun h => h) c1
    by_cases hlt : k < m
    · obtain ⟨o, ho⟩ : ∃ o, L[k]? = some o := ⟨L[k]'(by have := Hm.out; omega), List.getElem?_eq_getElem _⟩
      obtain ⟨g, rfl, d0, d1, d2⟩ := hcs k o ho
      have e0 := hst.cell_some (fun h => h) d0
      have e1 := hst.cell_some (fun h => h) d1
      have e2 := hst.cell_some (fun h => h) d2
      have hs := freeR_succ ho slot u
      have hle := freeR_le slot u (L.take k)
      rw [List.length_take] at hle
      obtain ⟨F, hF⟩ : ∃ F, F = freeR slot u (L.take k) := ⟨_, rfl⟩
      rw [← hF] at hs hle hown ⊢
      obtain ⟨f, hf⟩ : ∃ f, f = F.length := ⟨_, rfl⟩
      rw [← hf] at hle hown ⊢
      have hfm : f ≤ 100000 := by omega
      have Hf := Lib.hid hf
      have hlw := hst.size
      clear ho hcs hF c1 d0 d1 d2 hf hle
      by_cases hkeep : keepR slot u o = true
      · rw [if_pos hkeep] at hs
        have Hs := Lib.hid hs
        have hs1 := Still.new wr (.cells #[.int .i64 (o.u : Int), .int .i64 o.slot, .int .u16 (o.id : Int)] 82)
        have hown1 := own_only hown hs1 (fun _ _ h => h)
        have hrd := lit3 wr (.int .i64 (o.u : Int)) (.int .i64 o.slot) (.int .u16 (o.id : Int))
        have fin : ∀ v' w', w'.ownsRow q 82 3 v' (f + 1) (otRow F ++ [.int .i64 (o.u : Int), .int .i64 o.slot, .int .u16 (o.id : Int)]) → (wr.alloc (.cells #[.int .i64 (o.u : Int), .int .i64 o.slot, .int .u16 (o.id : Int)] 82)).grownBy w' (Value.slice A' f c').ownBlock →
            ∃ A'' c'', v' = .slice A'' (freeR slot u (L.take (k + 1))).length c'' ∧ w'.ownsRow q 82 3 (.slice A'' (freeR slot u (L.take (k + 1))).length c'') (freeR slot u (L.take (k + 1))).length (otRow (freeR slot u (L.take (k + 1)))) ∧ Still w w' := fun v' w' ho' hg => by
          have hl : (freeR slot u (L.take (k + 1))).length = f + 1 := by rw [Hs.out, Hf.out]; simp
          obtain ⟨A'', c'', rfl⟩ := own_shape ho'
          refine ⟨A'', c'', by rw [hl], ?_, (hst.still hs1).grown hg (fun i hi => ?_)⟩
          · rw [hl, Hs.out, otRow_append, otRow_single]
            exact ho'
          · right
            rcases hown.2 with ⟨e, _⟩ | ⟨g', cap, cur, e, hbq, hh, _⟩
            · rw [e] at hi; simp [Value.ownBlock] at hi
            · rw [e] at hi
              simp [Value.ownBlock] at hi
              have := Hq.out
              omega
        clear hs hown hst hs1
        by_cases g1 : o.slot = slot
        · have g2 : 0 ≤ u ∧ ¬ (o.u : Int) = u := by
            unfold keepR at hkeep
            simpa [g1] using hkeep
          obtain ⟨g2, g3⟩ := g2
          have b3 : ((o.u : Int) != u) = true := by rw [bne_iff_ne]; exact g3
          have b2 : ¬ u < 0 := by omega
          subst g1
          clear hkeep
          go_wp2_with (at_builtin; refine wpList_append_any _ rfl (.tmp 45) (.tmp 53) 78 rfl q 82 i0 (.agg #[.int .i64 0, .int .i64 0, .int .u16 0]) 3 24 Try.underlying78 hi hz0 hz1 hz2 rfl (by decide) _ _ _ rfl hown1 _ _ 1 1 _ rfl hrd (by intro v hv; simp at hv; rcases hv with rfl | rfl | rfl <;> rfl) (by unfold maxLen; omega) (by omega) (by have := Hq.out; simp; omega) ?_; intro v' w' hown' hgrow hblk)
          obtain ⟨A'', c'', rfl, ho2, hst2⟩ := fin v' w' hown' hgrow
          clear fin hown' hgrow hblk hown1 hrd
          go_wp2_with fail
          go_roundw
          case rel => exact ⟨k + 1, A'', c'', hlt, by go_num, rfl, ho2, hst2⟩
          case measure => simp [intOf]; omega
        · have b1 : (o.slot != slot) = true := by rw [bne_iff_ne]; exact g1
          clear hkeep
          go_wp2_with (at_builtin; refine wpList_append_any _ rfl (.tmp 45) (.tmp 53) 78 rfl q 82 i0 (.agg #[.int .i64 0, .int .i64 0, .int .u16 0]) 3 24 Try.underlying78 hi hz0 hz1 hz2 rfl (by decide) _ _ _ rfl hown1 _ _ 1 1 _ rfl hrd (by intro v hv; simp at hv; rcases hv with rfl | rfl | rfl <;> rfl) (by unfold maxLen; omega) (by omega) (by have := Hq.out; simp; omega) ?_; intro v' w' hown' hgrow hblk)
          obtain ⟨A'', c'', rfl, ho2, hst2⟩ := fin v' w' hown' hgrow
          clear fin hown' hgrow hblk hown1 hrd
          go_wp2_with fail
          go_roundw
          case rel => exact ⟨k + 1, A'', c'', hlt, by go_num, rfl, ho2, hst2⟩
          case measure => simp [intOf]; omega
      · have hk0 : keepR slot u o = false := by simpa using hkeep
        rw [if_neg hkeep, List.append_nil] at hs
        have Hs := Lib.hid hs
        have g1 : o.slot = slot := by
          unfold keepR at hk0
          simp at hk0
          exact hk0.1
        have g2 : u < 0 ∨ (o.u : Int) = u := by
          unfold keepR at hk0
          simp [g1] at hk0
          omega
        subst g1
        clear hs hkeep hk0
        rcases g2 with g2 | g2
        · go_wp2_with fail
          go_roundw
          case rel => exact ⟨k + 1, A', c', hlt, by go_num, by rw [Hs.out, Hf.out], by rw [Hs.out, ← Hf.out]; exact hown, hst⟩
          case measure => simp [intOf]; omega
        · subst g2
          have b2 : ¬ (o.u : Int) < 0 := by omega
          go_wp2_with fail
          go_roundw
          case rel => exact ⟨k + 1, A', c', hlt, by go_num, by rw [Hs.out, Hf.out], by rw [Hs.out, ← Hf.out]; exact hown, hst⟩
          case measure => simp [intOf]; omega
    · obtain rfl : k = m := by omega
      rw [List.take_of_length_le (by rw [Hm.out]; omega)] at hown ⊢
      have hle := freeR_le slot u L
      have hI2 : Inv n (freeR slot u L) := HI.out.filter _
      have hsub : ((k : Int) - (freeR slot u L).length) = ((L.length - (freeR slot u L).length : Nat) : Int) := by have := Hm.out; omega
      obtain ⟨F, hF⟩ : ∃ F, F = freeR slot u L := ⟨_, rfl⟩
      rw [← hF] at hle hown hI2 hsub ⊢
      obtain ⟨f, hf⟩ : ∃ f, f = F.length := ⟨_, rfl⟩
      rw [← hf] at hle hown hsub ⊢
      obtain ⟨r, hr⟩ : ∃ r, r = L.length - f := ⟨_, rfl⟩
      rw [← hr] at hsub
      have HF := Lib.hid hF
      have Hr := Lib.hid hr
      have hr6 : r ≤ 100000 := by have := Hm.out; omega
      have Hsub := Lib.hid hsub
      have Hf := Lib.hid hf
      have hBr := HB.out.only hst (fun h => h)
      have f1 := hBr.frozen 1
      have hxo : ∀ i, (Value.slice A' f c').ownBlock = some i → i ≠ x := fun i hi e => by
        subst e
        exact own_blk_ne hown hBr (by decide) hi
      have fin : RT (wr.setCell ⟨x, 1, none⟩ (.slice A' f c')) x n F ∧ Only (· = x) w (wr.setCell ⟨x, 1, none⟩ (.slice A' f c')) := by
        refine ⟨⟨⟨A', c', ?_, ?_⟩, hI2⟩, (Only.of_still hst (fun i => i = x)).setCell (p := ⟨x, 1, none⟩) (.inl rfl) _⟩
        · have := hBr.set_ 1 (.slice A' f c')
          rw [← Hf.out]
          simpa using this
        · rw [← Hf.out]
          exact own_base (own_only hown ((Only.refl (· = x) wr).setCell (p := ⟨x, 1, none⟩) (.inl rfl) _) hxo) (Nat.zero_le _)
      clear hcs hown hst hI2 hle hf hr hF hsub hBr hxo c1
      have hw : IntKind.i64.wrap ((k : Int) - f) = r := by rw [Hsub.out, IntKind.wrap_i64]; omega
      have hsub := Hsub.out
      go_wp2_with fail
      go_ret
      rw [← HF.out, ← Hf.out, ← Hr.out]
      exact ⟨rfl, fin.1, fin.2⟩
theorem rFree_any {w : World} {x n : Nat} {L : List Out} (h : RT w x n L) (hL : L.length ≤ 100000) (slot : Int) :
    Calls Try.prog 22 #[.pointer (some ⟨x, 0, none⟩), .int .i64 slot] w fun e w' =>
      e = .returned (.int .i64 (L.length - (freeO slot L).length : Nat)) ∧ RT w' x n (freeO slot L) ∧ Only (· = x) w w' := by
  have hh := rfree_any h hL slot (-1)
  rw [freeR_neg] at hh
  go_enter Try.func22, Try.ntmps22
  go_wp2_with fail
  refine hh.mono ?_
  rintro e w1 ⟨rfl, r1, r2⟩
  go_wp2_with fail
  go_ret
  exact ⟨rfl, r1, r2⟩
theorem rFreeAt_any {w : World} {x n : Nat} {L : List Out} (h : RT w x n L) (hL : L.length ≤ 100000) (slot u : Int) :
    Calls Try.prog 23 #[.pointer (some ⟨x, 0, none⟩), .int .i64 slot, .int .i64 u] w fun e w' =>
      e = .returned (.int .i64 (L.length - (freeAtI n slot u L).length : Nat)) ∧ RT w' x n (freeAtI n slot u L) ∧ Only (· = x) w w' := by
  by_cases hu : u < 0
  · have e : freeAtI n slot u L = L := by unfold freeAtI; rw [if_neg (by omega)]
    rw [e, Nat.sub_self]
    go_enter Try.func23, Try.ntmps23
    go_wp2_with fail
    go_ret
    exact ⟨rfl, h, Only.refl _ _⟩
  · have hh := rfree_any h hL slot u
    rw [freeR_at h.inv slot u (by omega)] at hh
    go_enter Try.func23, Try.ntmps23
    go_wp2_with fail
    refine hh.mono ?_
    rintro e w1 ⟨rfl, r1, r2⟩
    go_wp2_with fail
    go_ret
    exact ⟨rfl, r1, r2⟩
end Go.Proofs.Ythbapdajmpplhaa
