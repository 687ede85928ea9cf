/-
  NameTells.
-/
import Derived.Test.YtjenabcjikdnaaaNameRef5
namespace Go.Proofs.Ytjenabcjikdnaaa
open Go.RowKit
set_option linter.unusedVariables false
set_option linter.unusedSimpArgs false

/-- The labels, none if it is no name. -/
def labsN (s : ByteArray) : List Lab := if mayN s.data.toList = true then labs s else []
theorem labsN_no {s : ByteArray} (h : mayN s.data.toList = false) : labsN s = [] := by unfold labsN; rw [h]; rfl
theorem labsN_enc {L : List Lab} (h : okL L) : labsN (mk (enc L)) = L := by unfold labsN; rw [may_b h, labs_enc h]; rfl
theorem labsN_len (s : ByteArray) : (labsN s).length ≤ 127 := by
  rcases hm : mayN s.data.toList with _ | _
  · rw [labsN_no hm]; simp
  · obtain ⟨L, hL, rfl⟩ := may_mk hm
    rw [labsN_enc hL]; exact hL.len
theorem labels_s (s : ByteArray) (hs : s.size ≤ 3000) (w : World) : Calls Try.prog 19 #[.string s] w fun e w' => ∃ A c, e = .returned (.slice A (labsN s).length c) ∧ w'.ownsRow w.heap.size 9 1 (.slice A (labsN s).length c) (labsN s).length (sv (labsN s)) ∧ Still w w' := by
  rcases hm : mayN s.data.toList with _ | _
  · rw [labsN_no hm]
    refine (labels_no s (by unfold maxLen; omega) hm w).mono ?_
    rintro e w' ⟨rfl, h⟩
    exact ⟨none, 0, rfl, World.ownsRow_nil _ _ _ _, h⟩
  · obtain ⟨L, hL, rfl⟩ := may_mk hm
    rw [labsN_enc hL]
    exact labels_any L hL w
theorem rlabels_s (s : ByteArray) (hs : s.size ≤ 3000) (w : World) : Calls Try.prog 24 #[.string s] w fun e w' => ∃ A c, e = .returned (.tuple #[.slice A (labsN s).length c, .bool (mayN s.data.toList)]) ∧ w'.ownsRow w.heap.size 9 1 (.slice A (labsN s).length c) (labsN s).length (sv (labsN s)) ∧ Still w w' := by
  refine (rlabels_any s hs w).mono ?_
  rintro e w' (⟨hm, rfl, h⟩ | ⟨L, A, c, hm, rfl, ho, h⟩)
  · rw [labsN_no hm.out, hm.out]
    exact ⟨none, 0, rfl, World.ownsRow_nil _ _ _ _, h⟩
  · obtain ⟨h1, rfl⟩ := hm.out
    rw [labsN_enc h1, may_b h1]
    exact ⟨A, c, rfl, ho, h⟩
theorem row_blk {w : World} {base n c : Nat} {A : Option Addr} {xs : List Value} (h : w.ownsRow base 9 1 (.slice A n c) n xs) (hn : 0 < n) : ∃ g cur, A = some ⟨g, 0, none⟩ ∧ base ≤ g ∧ n ≤ c ∧ Blk w g 9 cur ∧ cur.size = c := by
  rcases h.2 with ⟨hv, h1⟩ | ⟨g, cap, cur, hv, hb, hh, hnc, hcm, hs, _⟩
  · omega
  · injection hv with hA hn' hc
    subst hA; subst hc
    exact ⟨g, cur, rfl, hb, hnc, hh, by omega⟩
theorem blk_some {w : World} {g : Nat} {t : TypeId} {cur : Array Value} (h : Blk w g t cur) {k : Nat} (hk : k < cur.size) : w.cell? ⟨g, k, none⟩ = some cur[k] := by
  rw [h.cell k, Array.getElem?_eq_getElem hk]

set_option maxRecDepth 1000000 in
set_option maxHeartbeats 6400000 in
theorem tells_walk (w : World) (s : ByteArray) (hs : s.size ≤ maxLen) :
    Calls Try.prog 4 #[.string s] w fun e w' => e = .returned (.bool true) ∧ Still w w' := by
  clear hs
  have hS : Still w w := Only.refl _ _
  go_enter Try.func4, Try.ntmps4
  by_cases zn : 1000 < s.size
  · have i_n : (1000 : Int) < (s.size : Int) := by omega
    go_wp2_with (first | (go_at_call 12; refine (name_awake _).mono ?_; rintro e w' ⟨rfl, hst⟩; have hS := hS.still hst; clear hst) | (go_at_call 13; refine (may_s _ (by assumption) _).mono ?_; rintro e w' ⟨rfl, hst⟩; have hS := hS.still hst; clear hst) | (go_at_call 23; refine (fold_s _ (by assumption) _).mono ?_; rintro e w' ⟨rfl, hst⟩; have hS := hS.still hst; clear hst) | (go_at_call 18; refine (parent_s _ (by assumption) _).mono ?_; rintro e w' ⟨rfl, hst⟩; have hS := hS.still hst; clear hst) | (go_at_call 20; refine (text_s _ (by assumption) _).mono ?_; rintro e w' ⟨rfl, hst⟩; have hS := hS.still hst; clear hst) | (go_at_call 28; refine (rtext_any _ (by assumption) _).mono ?_; rintro e w' ⟨rfl, hst⟩; have hS := hS.still hst; clear hst) | (go_at_call 27; refine (rfold_any _ (by assumption) _).mono ?_; rintro e w' ⟨rfl, hst⟩; have hS := hS.still hst; clear hst) | (go_at_call 26; refine (rparent_any _ (by assumption) _).mono ?_; rintro e w' ⟨rfl, hst⟩; have hS := hS.still hst; clear hst))
    go_ret
    exact ⟨rfl, hS⟩
  have i_n : ¬ (1000 : Int) < (s.size : Int) := by omega
  have ss : s.size ≤ 3000 := by omega
  clear zn
  have hDl := labsN_len s
  have hla := labels_s s ss
  have hrl := rlabels_s s ss
  obtain ⟨D, hD⟩ : ∃ D, D = labsN s := ⟨_, rfl⟩
  obtain ⟨ms, hms⟩ : ∃ m, m = mayN s.data.toList := ⟨_, rfl⟩
  rw [← hD] at hDl hla hrl
  rw [← hms] at hrl
  have HLA := Lib.hid hla
  have HRL := Lib.hid hrl
  have HMS := Lib.hid hms
  clear hla hrl hD hms
  go_wp2_with fail
  refine (HRL.out w).mono ?_
  rintro e w2 ⟨A, c, rfl, hown, h2⟩
  clear HRL
  go_wp2_with fail
  go_loopw [5] (fun i wr => ∃ k : Nat, k ≤ 2 ∧ i = .int .i64 k ∧ wr.ownsRow w.heap.size 9 1 (.slice A D.length c) D.length (sv D) ∧ Still w wr) (fun i _ => 5 - (intOf i).toNat)
  case atStart => exact ⟨0, by omega, rfl, hown, h2⟩
  case round =>
    clear hown h2 hS
    obtain ⟨k, hk, rfl, hown, hst⟩ := hrel
    by_cases hlt : k < 2
    · have i1 : (k : Int) < 2 := by omega
      have i2 : IntKind.i64.wrap ((k : Int) + 1) = ((k + 1 : Nat) : Int) := by rw [IntWalk.i64_in _ (by omega)]; push_cast; rfl
      go_wp2_with fail
      refine (HLA.out wr).mono ?_
      rintro e w3 ⟨B, d, rfl, ownB, h3⟩
      have ownA := own_only hown h3 (fun _ _ h => h)
      have hst3 := hst.still h3
      have hwz := hst.size
      have hltA : ∀ k, (Value.slice A D.length c).ownBlock = some k → k < wr.heap.size := fun k hk => (hown.lt k hk).2
      have HltA := Lib.hid hltA
      clear hltA hown hst h3
      go_wp2_with fail
      refine (texts_any B D.length d D A D.length c D (by omega) w3 (Reads.of_own ownB) (Reads.of_own ownA)).mono ?_
      rintro e w4 ⟨rfl, h4⟩
      rw [decide_eq_true (rfl : D = D)]
      have ownA := own_only ownA h4 (fun _ _ h => h)
      have ownB := own_only ownB h4 (fun _ _ h => h)
      have hst4 := hst3.still h4
      clear h4 hst3
      go_wp2_with fail
      by_cases hD0 : D.length = 0
      · refine wp_loop_rounds 2 ?_
        rw [rounds_succ]
        have HA := Lib.hid ownA
        clear ownA ownB HltA
        have j1 : ¬ (0 : Int) < (D.length : Int) := by omega
        go_wp2_with fail
        exact ⟨⟨k + 1, by omega, by push_cast; rfl, HA.out, hst4⟩, by simp [intOf]; omega⟩
      · obtain ⟨gB, cur, rfl, g1, g2, hB, hcs⟩ := row_blk ownB (by omega)
        have hne : ∀ k, (Value.slice A D.length c).ownBlock = some k → ¬ k = gB := fun k hk e => by
          have := HltA.out k hk
          omega
        have HNE := Lib.hid hne
        have hwr := hst4.size
        have HA := Lib.hid ownA
        have HWR : Hid (w.heap.size ≤ gB) := Lib.hid (by
          omega)
        clear hne ownB HltA ownA
        go_loopw [7] (fun i wq => ∃ (j : Nat) (cu : Array Value), j ≤ D.length ∧ i = .int .i64 j ∧ cu.size = d ∧ Blk wq gB 9 cu ∧ Only (· = gB) w4 wq) (fun i _ => 300 - (intOf i).toNat)
        case atStart => exact ⟨0, cur, by omega, rfl, hcs, hB, Only.refl _ _⟩
        case round =>
          clear hB hcs cur
          obtain ⟨j, cu, hj, rfl, hcu, hB, ho⟩ := hrel
          by_cases hjl : j < D.length
          · have j1 : (j : Int) < (D.length : Int) := by omega
            have cj := blk_some hB (k := j) (by omega)
            have fj := hB.frozen j
            have j2 : IntKind.i64.wrap ((j : Int) + 1) = ((j + 1 : Nat) : Int) := by rw [IntWalk.i64_in _ (by omega)]; push_cast; rfl
            have hBf := hB.set_ j (.string ⟨#[115, 112, 111, 105, 108, 116]⟩)
            have hof := ho.setCell (p := ⟨gB, j, none⟩) (.inl rfl) (.string ⟨#[115, 112, 111, 105, 108, 116]⟩)
            clear hB ho
            go_wp2_with fail
            exact ⟨⟨j + 1, _, by omega, by push_cast; rfl, by rw [Array.size_setIfInBounds]; exact hcu, hBf, hof⟩, by simp [intOf]; omega⟩
          · have j1 : ¬ (j : Int) < (D.length : Int) := by omega
            have hfa := own_only HA.out ho HNE.out
            have hfs := hst4.trans ho (fun i hi e => by
              have e' : i = gB := e
              have := HWR.out
              omega)
            clear hB ho
            go_wp2_with fail
            exact ⟨⟨k + 1, by omega, by push_cast; rfl, hfa, hfs⟩, by simp [intOf]; omega⟩
    · have i1 : ¬ (k : Int) < 2 := by omega
      have hS := hst
      have HS0 := Lib.hid HMS.out
      clear hown hst HLA HMS
      generalize hx1 : parB s = x1
      generalize hx2 : parI s = x2
      generalize hx3 : foldS s = x3
      generalize hx4 : textS s = x4
      have hms : mayN s.data.toList = ms := HS0.out.symm
      go_wp2_with (first | (go_at_call 12; refine (name_awake _).mono ?_; rintro e w' ⟨rfl, hst⟩; have hS := hS.still hst; clear hst) | (go_at_call 13; refine (may_s _ (by assumption) _).mono ?_; rintro e w' ⟨rfl, hst⟩; have hS := hS.still hst; clear hst) | (go_at_call 23; refine (fold_s _ (by assumption) _).mono ?_; rintro e w' ⟨rfl, hst⟩; have hS := hS.still hst; clear hst) | (go_at_call 18; refine (parent_s _ (by assumption) _).mono ?_; rintro e w' ⟨rfl, hst⟩; have hS := hS.still hst; clear hst) | (go_at_call 20; refine (text_s _ (by assumption) _).mono ?_; rintro e w' ⟨rfl, hst⟩; have hS := hS.still hst; clear hst) | (go_at_call 28; refine (rtext_any _ (by assumption) _).mono ?_; rintro e w' ⟨rfl, hst⟩; have hS := hS.still hst; clear hst) | (go_at_call 27; refine (rfold_any _ (by assumption) _).mono ?_; rintro e w' ⟨rfl, hst⟩; have hS := hS.still hst; clear hst) | (go_at_call 26; refine (rparent_any _ (by assumption) _).mono ?_; rintro e w' ⟨rfl, hst⟩; have hS := hS.still hst; clear hst))
      all_goals (go_ret; exact ⟨rfl, hS⟩)
end Go.Proofs.Ytjenabcjikdnaaa
