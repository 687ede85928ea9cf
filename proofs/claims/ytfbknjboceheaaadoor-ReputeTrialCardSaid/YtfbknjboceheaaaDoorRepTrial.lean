/-
  ReputeTrial: who is on trial may be asked, its score below the bound; nobody comes on trial but who was back.
-/
import Derived.Test.YtfbknjboceheaaaDoorRepMd
import Derived.Test.YtfbknjboceheaaaDoorRepInv
import Derived.Test.YtfbknjboceheaaaDoorRepOf
namespace Go.Proofs.YtfbknjboceheaaaDoor
open Go.RowKit
set_option linter.unusedVariables false
set_option linter.unusedSimpArgs false

structure Tr (lim : Int) (u v : Up) : Prop where
  a : v.trial = true → u.trial = true ∨ u.rests = true
  b : u.trial = true → v.trial = false → v.rests = false → top lim ≤ v.score
theorem Tr.refl (lim : Int) (u : Up) : Tr lim u u := ⟨fun h => .inl h, fun h h' => by rw [h] at h'; cases h'⟩
theorem tr_end {lim : Int} {u v : Up} (h : v.trial = true → u.trial = true ∨ u.rests = true) (h' : u.trial = true → v.trial = true) : Tr lim u (endTrial lim v) := by
  refine ⟨fun ht => ?_, fun ht hf _ => ?_⟩
  · unfold endTrial at ht; simp at ht; exact h ht.1
  · unfold endTrial at hf; simp at hf
    exact hf (h' ht)
theorem tr_agree (lim : Int) (u : Up) : Tr lim u (agreeUp lim u) := tr_end (fun h => .inl h) (fun h => h)
theorem tr_silent (lim : Int) (u : Up) : Tr lim u (silentUp lim u) := tr_end (fun h => .inl h) (fun h => h)
theorem tr_dissent (lim rst may n now : Int) (u : Up) : Tr lim u (dissentUp lim rst may n now u) := by
  unfold dissentUp
  split
  · exact ⟨fun h => (Bool.noConfusion h), fun _ _ h => Bool.noConfusion h⟩
  · exact tr_end (v := hitUp u) (fun h => .inl h) (fun h => h)
theorem tr_back (lim now : Int) (u : Up) : Tr lim u (backOne lim now u) := by
  unfold backOne
  split
  · rename_i h
    unfold isBack at h
    simp only [Bool.and_eq_true] at h
    exact tr_end (v := { u with rests := false, til := 0, score := lim, trial := true }) (fun _ => .inr h.1) (fun _ => rfl)
  · exact Tr.refl lim u
theorem trr_upd {lim i : Int} {us : List Up} {f : Up → Up} (hf : ∀ u, Tr lim u (f u)) {k : Nat} {u v : Up} (hu : us[k]? = some u) (hv : (upd us i f)[k]? = some v) : Tr lim u v := by
  rw [upd_get, hu] at hv
  simp only [Option.map_some, Option.some.injEq] at hv
  subst hv
  split
  · exact hf u
  · exact Tr.refl lim u
theorem tr_act {lim rst : Int} {n : Nat} {us : List Up} {a : A3} {k : Nat} {u v : Up} (hu : us[k]? = some u) (hv : (act3 lim rst n us a)[k]? = some v) : Tr lim u v := by
  unfold act3 at hv
  split at hv
  · exact trr_upd (tr_agree lim) hu hv
  · split at hv
    · unfold dissentL at hv
      split at hv
      · exact trr_upd (fun u => tr_dissent lim rst _ _ _ u) hu hv
      · rw [hu] at hv; injection hv with hv; subst hv; exact Tr.refl lim u
    · split at hv
      · exact trr_upd (tr_silent lim) hu hv
      · split at hv
        · rw [List.getElem?_map, hu] at hv
          simp only [Option.map_some, Option.some.injEq] at hv
          subst hv
          exact tr_back lim _ u
        · rw [hu] at hv; injection hv with hv; subst hv; exact Tr.refl lim u
theorem act3_len {lim rst : Int} {n : Nat} {us : List Up} {a : A3} : (act3 lim rst n us a).length = us.length := by
  unfold act3 dissentL
  split
  · exact upd_length _ _ _
  · split
    · split
      · exact upd_length _ _ _
      · rfl
    · split
      · exact upd_length _ _ _
      · split
        · exact List.length_map _
        · rfl

set_option maxRecDepth 1000000 in
set_option maxHeartbeats 6400000 in
theorem trial_walk (w : World) (hg : Gains w) (a b c : Int) (C : Option Addr) (m cc : Nat) (l : List A3) (hm : m ≤ maxLen) (hl : l.length = m) (hr : Reads w w.heap.size 3 C m (a3Cells l)) :
    Calls Tryd.prog 7 #[.int .i64 a, .int .i64 b, .int .i64 c, .slice C m cc] w fun e w' => e = .returned (.bool true) ∧ Still w w' := by
  by_cases h600 : (600 : Int) < (m : Int)
  · have hd : decide ((600 : Int) < (m : Int)) = true := decide_eq_true h600
    go_enter Tryd.func7, Tryd.ntmps7
    go_wp2_with fail
    refine (rep_awake w hg).mono ?_
    rintro e w1 ⟨rfl, hs⟩
    go_wp2_with fail
    go_ret
    exact ⟨rfl, hs⟩
  · have hd : decide ((600 : Int) < (m : Int)) = false := decide_eq_false h600
    have Hl := Lib.hid hl
    clear hl
    go_enter Tryd.func7, Tryd.ntmps7
    go_wp2_with fail
    refine (rep_awake w hg).mono ?_
    rintro e w1 ⟨rfl, hs1⟩
    have hg1 := hg.still hs1
    have hr1 := hr.only hs1 (Nat.le_refl _) (fun _ _ h => h)
    go_wp2_with fail
    refine (made_live w1 hg1 a b c none 0 0 [] (by omega) rfl Reads.none_).mono ?_
    rintro e w2 ⟨G, B, n, lim, rst, rfl, hodd, h2⟩
    have hr2 := hr1.only h2.st hs1.size (fun _ _ h => h)
    have inv2 : Inv n lim (acts3 lim rst n (List.replicate n up1) []) := Inv.new lim h2.ok.n1
    clear hr1 hr hg1
    go_wp2_with fail
    go_loopw [13] (fun i wr => ∃ (j cB : Nat) (us : List Up), j ≤ m ∧ i = .int .i64 (j : Int) ∧ Live w1 wr G B n n lim rst us ∧ Inv n lim us ∧ Reads wr w.heap.size 3 C m (a3Cells l)) (fun i _ => m - (intOf i).toNat)
    case atStart => exact ⟨0, 0, _, by omega, rfl, h2, inv2, hr2⟩
    case round =>
      clear h2 inv2 hr2
      obtain ⟨j, _, us, hj, rfl, h3, inv3, hr3⟩ := hrel
      by_cases hlt : j < m
      · go_wp2_with fail
        refine (Copy_any h3.bk h3.ok.n9 h3.ok.n1).mono ?_
        rintro e w3 ⟨G', B', c', rfl, hG, hB, hk3, hs3⟩
        have h4 := h3.still hs3
        have hr4 := hr3.only hs3 (Nat.le_trans hs1.size h3.st.size) (fun _ _ h => h)
        have hGB : G' ≠ B := by have := h3.bk.blt; omega
        have hBB : B' ≠ B := by have := h3.bk.blt; omega
        have hs4 := h3.st.still hs3
        clear h3 hr3 hs3 hG hB
        obtain ⟨bl, off, x1, x2, x3, rfl, hbl, hlk, c0, c1, c2⟩ := a3_cells hr4 Hl.out hlt
        have inv4 := inv3.act (rst := rst) (x1, x2, x3)
        have htr := fun (k : Nat) (u v : Up) (hu : us[k]? = some u) (hv : (act3 lim rst n us (x1, x2, x3))[k]? = some v) => tr_act hu hv
        clear hlk
        go_wp2_with fail
        refine (does_live h4 x1 x2 x3).mono ?_
        rintro e w5 ⟨rfl, h5, o5⟩
        have hr5 := hr4.only o5 (Nat.le_trans hs1.size h4.st.size) (fun i hi e => by have := h4.b0; have := hs1.size; omega)
        have hk5 := hk3.only o5 hGB hBB
        have Htr := Lib.hid htr
        have n9 := h4.ok.n9
        clear h4 c0 c1 c2 o5 hr4 hk3 htr inv3
        generalize act3 lim rst n us (x1, x2, x3) = vs at *
        go_wp2_with fail
        go_loopw [15] (fun i wr => ∃ k : Nat, k ≤ n ∧ i = .int .i64 k ∧ Hid (Still w5 wr)) (fun i _ => n - (intOf i).toNat)
        case atStart => exact ⟨0, by omega, rfl, Lib.hid (Only.refl _ _)⟩
        case round =>
          obtain ⟨k, hk, rfl, hst⟩ := hrel
          by_cases hlt2 : k < n
          · have h6 := h5.still hst.out
            have hk6 := hk5.still hst.out
            obtain ⟨x, hx⟩ := hk6.get hlt2
            obtain ⟨y, hy⟩ := h6.bk.get hlt2
            have htr := Htr.out k x y hx hy
            have hy2 := inv4.tr k y hy
            go_wp2_with fail
            refine (of_in hk6 k hx).mono ?_
            rintro e w7 ⟨rfl, hs7⟩
            have h7 := h6.still hs7
            have hk7 := hk6.still hs7
            have hst7 := hst.out.still hs7
            clear h6 hk6 hst
            go_wp2_with fail
            refine (of_in h7.bk k hy).mono ?_
            rintro e w8 ⟨rfl, hs8⟩
            have h8 := h7.still hs8
            have hk8 := hk7.still hs8
            have hst8 := hst7.still hs8
            clear h7 hk7 hst7 hs7 hs8
            have hmin : (if lim + 10 < 100 then lim + 10 else (100 : Int)) = top lim := by unfold top; split <;> split <;> omega
            have y3 : IntKind.i64.wrap (lim + 10) = lim + 10 := IntWalk.i64_in _ (by have := h8.ok.l1; have := h8.ok.l2; omega)
            rcases hyt : y.trial with _ | _
            · rcases hxt : x.trial with _ | _
              · unfold ofA
                rw [hyt, hxt]
                clear hx hy h8 hk8 htr hy2 
                go_wp2_with fail
                go_roundw
                case rel => exact ⟨k + 1, by omega, by go_num, Lib.hid ((hst8.alloc _).alloc _)⟩
                case measure => simp [intOf] <;> omega
              · rcases hyr : y.rests with _ | _
                · have hsc := decide_eq_false (show ¬ y.score < top lim by have := htr.b hxt hyt hyr; omega)
                  unfold ofA
                  rw [hyt, hxt, hyr]
                  clear hx hy h8 hk8 htr hy2 
                  go_wp2_with fail
                  go_roundw
                  case rel => exact ⟨k + 1, by omega, by go_num, Lib.hid ((hst8.alloc _).alloc _)⟩
                  case measure => simp [intOf] <;> omega
                · unfold ofA
                  rw [hyt, hxt, hyr]
                  clear hx hy h8 hk8 htr hy2 
                  go_wp2_with fail
                  go_roundw
                  case rel => exact ⟨k + 1, by omega, by go_num, Lib.hid ((hst8.alloc _).alloc _)⟩
                  case measure => simp [intOf] <;> omega
            · obtain ⟨hyr, hsc0⟩ := hy2 hyt
              have hsc := decide_eq_false (show ¬ top lim ≤ y.score by omega)
              clear hsc0
              rcases hxt : x.trial with _ | _
              · have hxr : x.rests = true := by
                  rcases htr.a hyt with h | h
                  · rw [hxt] at h; cases h
                  · exact h
                unfold ofA
                rw [hyt, hxt, hyr, hxr]
                clear hx hy h8 hk8 htr hy2 
                go_wp2_with fail
                go_roundw
                case rel => exact ⟨k + 1, by omega, by go_num, Lib.hid ((hst8.alloc _).alloc _)⟩
                case measure => simp [intOf] <;> omega
              · unfold ofA
                rw [hyt, hxt, hyr]
                clear hx hy h8 hk8 htr hy2 
                go_wp2_with fail
                go_roundw
                case rel => exact ⟨k + 1, by omega, by go_num, Lib.hid ((hst8.alloc _).alloc _)⟩
                case measure => simp [intOf] <;> omega
          · obtain rfl : n = k := by omega
            have h6 := h5.still hst.out
            have hr6 := hr5.only hst.out (Nat.le_trans hs1.size h5.st.size) (fun _ _ h => h)
            clear hst h5 hr5 hk5
            go_wp2_with fail
            go_roundw
            case rel => exact ⟨j + 1, 0, vs, by omega, by go_num, h6, inv4, hr6⟩
            case measure => simp [intOf] <;> omega
      · obtain rfl : j = m := by omega
        go_wp2_with fail
        go_ret
        exact ⟨rfl, hs1.still h3.st⟩
end Go.Proofs.YtfbknjboceheaaaDoor
