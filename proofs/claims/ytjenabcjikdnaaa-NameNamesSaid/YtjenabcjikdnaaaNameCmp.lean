/-
  Package name: Compare.
-/
import Derived.Test.YtjenabcjikdnaaaNameTwo
import Derived.Test.YtjenabcjikdnaaaNameShelf
namespace Go.Proofs.Ytjenabcjikdnaaa
open Go.RowKit
set_option linter.unusedVariables false
set_option linter.unusedSimpArgs false

theorem row_at {w : World} {base n c : Nat} {A : Option Addr} {L : List Lab} (h : w.ownsRow base 9 1 (.slice A n c) n (sv L)) (hn : 0 < n) : ∃ g, A = some ⟨g, 0, none⟩ ∧ g < w.heap.size ∧ base ≤ g ∧ n ≤ c ∧ c ≤ maxLen ∧ ∀ k (hk : k < L.length), w.cell? ⟨g, k, none⟩ = some (.string (mk L[k])) := by
  have h0 := h
  rcases h.2 with ⟨hv, h1⟩ | ⟨g, cap, cur, hv, hb, hh, hnc, hcm, _⟩
  · omega
  · injection hv with hA hn' hc
    subst hA
    refine ⟨g, rfl, (Array.getElem?_eq_some_iff.1 hh).1, hb, by omega, by omega, fun k hk => ?_⟩
    have := h0.cells (g := g) rfl k (.string (mk L[k])) (by unfold sv; rw [List.getElem?_map, List.getElem?_eq_getElem hk]; rfl)
    rw [show (⟨g, 0, none⟩ : Addr).add k = ⟨g, k, none⟩ by unfold Addr.add; split <;> simp_all] at this
    exact this
theorem lexc_drop {α : Type} {c : α → α → Int} {X Y : List α} {k : Nat} (hx : k < X.length) (hy : k < Y.length) : lexc c (X.drop k) (Y.drop k) = if c X[k] Y[k] = 0 then lexc c (X.drop (k + 1)) (Y.drop (k + 1)) else c X[k] Y[k] := by
  rw [List.drop_eq_getElem_cons hx, List.drop_eq_getElem_cons hy]; rfl
theorem lexc_end {α : Type} {c : α → α → Int} {X Y : List α} {k : Nat} (hx : k ≤ X.length) (hy : k ≤ Y.length) (h : X.length = k ∨ Y.length = k) : lexc c (X.drop k) (Y.drop k) = Lib.compareInt X.length Y.length := by
  unfold Lib.compareInt
  rcases h with h | h
  · rw [List.drop_of_length_le (Nat.le_of_eq h)]
    cases hd : Y.drop k with
    | nil =>
        have := congrArg List.length hd
        simp at this
        rw [if_neg (by omega), if_neg (by omega)]; rfl
    | cons y t =>
        have := congrArg List.length hd
        simp at this
        rw [if_pos (by omega)]; rfl
  · rw [List.drop_of_length_le (Nat.le_of_eq h) (l := Y)]
    cases hd : X.drop k with
    | nil =>
        have := congrArg List.length hd
        simp at this
        rw [if_neg (by omega), if_neg (by omega)]; rfl
    | cons y t =>
        have := congrArg List.length hd
        simp at this
        rw [if_neg (by omega), if_pos (by omega)]; rfl

set_option maxRecDepth 1000000 in
set_option maxHeartbeats 3200000 in
theorem compare_any (L M : List Lab) (hL : okL L) (hM : okL M) (w : World) :
    Calls Try.prog 22 #[.string (mk (enc L)), .string (mk (enc M))] w fun e w' => e = .returned (.int .i64 (cmpN L M)) ∧ Still w w' := by
  have hma := may_b hL
  have hmb := may_b hM
  have hfa := foldS_enc hL
  have hfb := foldS_enc hM
  have hsa := enc_size hL
  have hsb := enc_size hM
  have hF := hL.fold
  have hY := hM.fold
  obtain ⟨ri, hri⟩ : ∃ r, r = cmpN L M := ⟨_, rfl⟩
  have H : Hid (ri = lexc cmpB (fold L).reverse (fold M).reverse) := Lib.hid hri
  rw [← hri]
  clear hri
  generalize mk (enc L) = a at *
  generalize mk (enc M) = b at *
  generalize fold L = F at *
  generalize fold M = Y at *
  have lF := hF.len
  have lY := hY.len
  go_enter Try.func22, Try.ntmps22
  go_wp2_with fail
  refine (may_any a hsa w).mono ?_
  rintro e w' ⟨rfl, q, rfl⟩
  rw [hma]
  have h1 := Still.quiet w q
  generalize w.drewN q = w1 at h1 ⊢
  go_wp2_with fail
  refine (may_any b hsb _).mono ?_
  rintro e w' ⟨rfl, q, rfl⟩
  rw [hmb]
  have h2 := h1.still (Still.quiet w1 q)
  generalize w1.drewN q = w2 at h2 ⊢
  go_wp2_with fail
  refine (fold_any a hsa _).mono ?_
  rintro e w3 ⟨rfl, h3⟩
  have h3 := h2.still h3
  rw [hfa]
  go_wp2_with fail
  refine (labels_any F hF _).mono ?_
  rintro e w4 ⟨A, cA, rfl, oA, h4⟩
  have h4 := h3.still h4
  go_wp2_with fail
  refine (fold_any b hsb _).mono ?_
  rintro e w5 ⟨rfl, h5'⟩
  have h5 := h4.still h5'
  have oA := own_only oA h5' (fun _ _ h => h)
  rw [hfb]
  go_wp2_with fail
  refine (labels_any Y hY _).mono ?_
  rintro e w6 ⟨B, cB, rfl, oB, h6'⟩
  have h6 := h5.still h6'
  have oA := own_only oA h6' (fun _ _ h => h)
  clear h1 h2 h3 h4 h5 h5' h6' hma hmb hfa hfb hF hY hsa hsb
  go_wp2_with fail
  go_loopw [7] (fun i wr => ∃ (k : Nat), k ≤ F.length ∧ k ≤ Y.length ∧ i = .int .i64 ((k + 1 : Nat) : Int) ∧ Hid (ri = lexc cmpB (F.reverse.drop k) (Y.reverse.drop k)) ∧ Still w6 wr) (fun i _ => 300 - (intOf i).toNat)
  case atStart => exact ⟨0, by omega, by omega, rfl, H, Only.refl _ _⟩
  case round =>
    obtain ⟨k, hkF, hkY, rfl, hri, hs6⟩ := hrel
    clear H
    have hst := h6.still hs6
    have oA := own_only oA hs6 (fun _ _ h => h)
    have oB := own_only oB hs6 (fun _ _ h => h)
    by_cases hk : k < F.length ∧ k < Y.length
    · obtain ⟨hk1, hk2⟩ := hk
      obtain ⟨gA, rfl, gA1, gA2, gA3, gA4, cA'⟩ := row_at oA (by omega)
      obtain ⟨gB, rfl, gB1, gB2, gB3, gB4, cB'⟩ := row_at oB (by omega)
      have hx := cA' (F.length - 1 - k) (by omega)
      have hy := cB' (Y.length - 1 - k) (by omega)
      have i1 : (k : Int) + 1 ≤ (F.length : Int) := by omega
      have i2 : (k : Int) + 1 ≤ (Y.length : Int) := by omega
      have i3 : IntKind.i64.wrap ((F.length : Int) - ((k : Int) + 1)) = ((F.length - 1 - k : Nat) : Int) := by rw [IntWalk.i64_in _ (by omega)]; omega
      have i4 : IntKind.i64.wrap ((Y.length : Int) - ((k : Int) + 1)) = ((Y.length - 1 - k : Nat) : Int) := by rw [IntWalk.i64_in _ (by omega)]; omega
      have i5 : F.length - 1 - k < F.length := by omega
      have i6 : Y.length - 1 - k < Y.length := by omega
      have i7 : IntKind.i64.wrap ((k : Int) + 1 + 1) = ((k + 1 + 1 : Nat) : Int) := by rw [IntWalk.i64_in _ (by omega)]; push_cast; rfl
      have hl := lexc_drop (c := cmpB) (X := F.reverse) (Y := Y.reverse) (k := k) (by simpa using hk1) (by simpa using hk2)
      rw [List.getElem_reverse, List.getElem_reverse] at hl
      obtain ⟨r, hr⟩ : ∃ r, r = cmpB F[F.length - 1 - k] Y[Y.length - 1 - k] := ⟨_, rfl⟩
      rw [← hr] at hl
      have hr' : Lib.compareBytes (mk F[F.length - 1 - k]).data.toList (mk Y[Y.length - 1 - k]).data.toList = r := by rw [mk_list, mk_list, compare_lexc, hr]
      have HL := Lib.hid hl
      generalize hxs : mk F[F.length - 1 - k] = xs at hx hr'
      generalize hys : mk Y[Y.length - 1 - k] = ys at hy hr'
      obtain ⟨m, hm⟩ : ∃ m, m = F.length - 1 - k := ⟨_, rfl⟩
      obtain ⟨n, hn⟩ : ∃ n, n = Y.length - 1 - k := ⟨_, rfl⟩
      rw [← hm] at hx i3 i5
      rw [← hn] at hy i4 i6
      have hm1 : (m : Int) < (F.length : Int) := by omega
      have hn1 : (n : Int) < (Y.length : Int) := by omega
      clear cA' cB' oA oB hl hr hxs hys hm hn
      go_wp2_with fail
      go_quiet ((go_at_call 42; exact quiet_left (compare_str _ _ _)))
      rw [hr']
      have hst := hst.drewN nq
      have hs6 := hs6.drewN nq
      generalize wr.drewN nq = wn at *
      clear hr'
      by_cases h0 : r = 0
      · have hn := HL.out
        rw [if_pos h0] at hn
        have Hn := Lib.hid (hri.out.trans hn)
        clear hn HL hri
        subst h0
        go_wp2_with fail
        exact ⟨⟨k + 1, by omega, by omega, by push_cast; rfl, Hn, hs6⟩, by simp [intOf]; omega⟩
      · have hn := HL.out
        rw [if_neg h0] at hn
        have Hn := Lib.hid (hri.out.trans hn)
        clear hn HL hri
        go_wp2_with fail
        go_ret
        exact ⟨ret_int Hn.out.symm, hst⟩
    · have hend := lexc_end (c := cmpB) (X := F.reverse) (Y := Y.reverse) (k := k) (by simpa using hkF) (by simpa using hkY) (by simp; omega)
      rw [List.length_reverse, List.length_reverse] at hend
      have Hn := Lib.hid (hri.out.trans hend)
      clear hend hri
      by_cases hk1 : k < F.length
      · have i1 : (k : Int) + 1 ≤ (F.length : Int) := by omega
        have i2 : ¬ (k : Int) + 1 ≤ (Y.length : Int) := by omega
        go_wp2_with fail
        refine (compare_int _ _ _).mono ?_
        rintro e wz ⟨rfl, rfl⟩
        go_wp2_with fail
        go_ret
        exact ⟨ret_int Hn.out.symm, hst⟩
      · have i1 : ¬ (k : Int) + 1 ≤ (F.length : Int) := by omega
        go_wp2_with fail
        refine (compare_int _ _ _).mono ?_
        rintro e wz ⟨rfl, rfl⟩
        go_wp2_with fail
        go_ret
        exact ⟨ret_int Hn.out.symm, hst⟩
end Go.Proofs.Ytjenabcjikdnaaa
