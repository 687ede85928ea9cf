/-
  hustingsref29: Copy; alike.
-/
import Derived.Test.YthbapdajmpplhaaPendRef3
import Derived.Test.YthbapdajmpplhaaTake
import Derived.Test.YthbapdajmpplhaaStepApp
import Derived.BigQuiet
namespace Go.Proofs.Ythbapdajmpplhaa
open Go.RowKit
set_option linter.unusedVariables false
set_option linter.unusedSimpArgs false

set_option maxRecDepth 1000000 in
set_option maxHeartbeats 6400000 in
theorem rcopy_any {w : World} {x n : Nat} {L : List Out} (h : RT w x n L) (hL : L.length ≤ 60000) :
    Calls Try.prog 24 #[.pointer (some ⟨x, 0, none⟩)] w fun e w' => ∃ x', e = .returned (.pointer (some ⟨x', 0, none⟩)) ∧ w.heap.size ≤ x' ∧ RT w' x' n L ∧ Still w w' := by
  obtain ⟨i0, hi, hz0, hz1', hz2⟩ := info_parts info_o
  have hI := h.inv
  obtain ⟨A, c, b1, b2⟩ := h.tab
  go_enter Try.func24, Try.ntmps24
  go_wp2_with fail
  have hs0 : Still w w.drew := (Only.refl _ _).drew
  have b1d := b1.only hs0 (fun h => h)
  have b2d := own_only b2 hs0 (fun _ _ h => h)
  refine wp_region_held_drew (S := fun w' => Still w.drew w') (by kernel_rfl) (Only.refl _ _) (fun hS => ?_)
  generalize w.drew = wd at *
  clear b1 b2 h
  have x0 := b1d.cell 0
  have x1 := b1d.cell 1
  simp at x0 x1
  (refine take_p (i := 0) (v := ?_) rfl (by kernel_rfl) (by kernel_rfl) (by kernel_rfl) (fun _ _ _ h => h) (Or.inl ⟨by rfl, ?_⟩) hS ?_; rotate_left; (focus (intro w0_ hSw; go_simp; try with_reducible rfl)); try simp only [Act.put, List.setIfInBounds_toArray, List.set_cons_zero, List.set_cons_succ])
  (refine take_p (i := 1) (v := ?_) rfl (by kernel_rfl) (by kernel_rfl) (by kernel_rfl) (fun _ _ _ h => h) (Or.inl ⟨by rfl, ?_⟩) hS ?_; rotate_left; (focus (intro w0_ hSw; go_simp; try with_reducible rfl)); try simp only [Act.put, List.setIfInBounds_toArray, List.set_cons_zero, List.set_cons_succ])
  (refine take_p (i := 2) (v := ?_) rfl (by kernel_rfl) (by kernel_rfl) (by kernel_rfl) (fun _ _ _ h => h) (Or.inl ⟨by rfl, ?_⟩) hS ?_; rotate_left; (focus (intro w0_ hSw; go_simp; try with_reducible rfl)); try simp only [Act.put, List.setIfInBounds_toArray, List.set_cons_zero, List.set_cons_succ])
  (refine take_p (i := 3) (v := ?_) rfl (by kernel_rfl) (by kernel_rfl) (by kernel_rfl) (fun _ _ _ h => h) (Or.inl ⟨by rfl, ?_⟩) hS ?_; rotate_left; (focus (intro w0_ hSw; have z0_ := hSw.cell_some (fun h => h) x0; go_simp; try with_reducible rfl)); try simp only [Act.put, List.setIfInBounds_toArray, List.set_cons_zero, List.set_cons_succ])
  (refine take_p (i := 5) (v := ?_) rfl (by kernel_rfl) (by kernel_rfl) (by kernel_rfl) (fun _ _ _ h => h) (Or.inl ⟨by rfl, ?_⟩) hS ?_; rotate_left; (focus (intro w0_ hSw; go_simp; try with_reducible rfl)); try simp only [Act.put, List.setIfInBounds_toArray, List.set_cons_zero, List.set_cons_succ])
  (refine take_p (i := 6) (v := ?_) rfl (by kernel_rfl) (by kernel_rfl) (by kernel_rfl) (fun _ _ _ h => h) (Or.inl ⟨by rfl, ?_⟩) hS ?_; rotate_left; (focus (intro w0_ hSw; go_simp; try with_reducible rfl)); try simp only [Act.put, List.setIfInBounds_toArray, List.set_cons_zero, List.set_cons_succ])
  (refine take_p (i := 7) (v := ?_) rfl (by kernel_rfl) (by kernel_rfl) (by kernel_rfl) (fun _ _ _ h => h) (Or.inl ⟨by rfl, ?_⟩) hS ?_; rotate_left; (focus (intro w0_ hSw; go_simp; try with_reducible rfl)); try simp only [Act.put, List.setIfInBounds_toArray, List.set_cons_zero, List.set_cons_succ])
  (refine take_p (i := 8) (v := ?_) rfl (by kernel_rfl) (by kernel_rfl) (by kernel_rfl) (fun _ _ _ h => h) (Or.inl ⟨by rfl, ?_⟩) hS ?_; rotate_left; (focus (intro w0_ hSw; have z1_ := hSw.cell_some (fun h => h) x1; go_simp; try with_reducible rfl)); try simp only [Act.put, List.setIfInBounds_toArray, List.set_cons_zero, List.set_cons_succ])
  have hs1 := Still.new wd (.cells #[] 82)
  have hrr := (Reads.of_own b2d).alloc (Nat.le_refl _) (.cells #[] 82)
  have hown0 := World.ownsRow_made (base := wd.heap.size) (e := 82) (size := 3) wd #[] 0 (Nat.le_refl _) (by unfold maxLen; omega) rfl
  have hSa := hS.still hs1
  refine wpAnyH_ready (rs := [4]) (by kernel_rfl) (by simp) ?_
  refine cons_p rfl (fun K_ hK => ?_) AllReadyH.nil
  go_simp
  refine hK.out _ _ hSa (fun hHeld => ?_)
  clear hK K_ hHeld
  try simp only [Act.put, List.setIfInBounds_toArray, List.set_cons_zero, List.set_cons_succ]
  replace hS := hSa
  refine wpAnyH_ready (rs := [9]) (by kernel_rfl) (by simp) ?_
  refine cons_p rfl (fun K_ hK => ?_) AllReadyH.nil
  refine step_append_any rfl (.tmp 7) (.tmp 11) 78 rfl wd.heap.size 82 i0 (.agg #[.int .i64 0, .int .i64 0, .int .u16 0]) 3 24 Try.underlying78 hi hz0 hz1' hz2 rfl (by decide) _ 0 [] rfl hown0 wd.heap.size _ _ c _ rfl hrr (otRow_one L) (by unfold maxLen; omega) (by omega) (by simp) ?_
  intro v2 w2 hown2 hgrow2 hblk2
  try rw [Nat.zero_add, List.nil_append] at hown2
  obtain ⟨A2, c2, rfl⟩ := own_shape hown2
  have hst2 : Still wd w2 := hs1.grown hgrow2 (fun i hi => .inr (by have hi' : some wd.heap.size = some i := hi; have := Option.some.inj hi'; omega))
  refine hK.out _ _ hst2 (fun hHeld => ?_)
  clear hK K_ hHeld
  try simp only [Act.put, List.setIfInBounds_toArray, List.set_cons_zero, List.set_cons_succ]
  replace hS := hst2
  (refine take_p (i := 10) (v := ?_) rfl (by kernel_rfl) (by kernel_rfl) (by kernel_rfl) (fun _ _ _ h => h) (Or.inl ⟨by rfl, ?_⟩) hS ?_; rotate_left; (focus (intro w0_ hSw; go_simp; try with_reducible rfl)); try simp only [Act.put, List.setIfInBounds_toArray, List.set_cons_zero, List.set_cons_succ])
  have hs3 := Still.new w2 (.cells #[.int .i64 (n : Int), .slice A2 L.length c2] 80)
  refine wpAnyH_ready (rs := [11]) (by kernel_rfl) (by simp) ?_
  refine cons_p rfl (fun K_ hK => ?_) AllReadyH.nil
  go_simp
  refine hK.out _ _ (hst2.still hs3) (fun hHeld => ?_)
  clear hK K_ hHeld
  try simp only [Act.put, List.setIfInBounds_toArray, List.set_cons_zero, List.set_cons_succ]
  replace hS := hst2.still hs3
  (refine take_p (i := 12) (v := ?_) rfl (by kernel_rfl) (by kernel_rfl) (by kernel_rfl) (fun _ _ _ h => h) (Or.inl ⟨by rfl, ?_⟩) hS ?_; rotate_left; (focus (intro w0_ hSw; go_simp; try with_reducible rfl)); try simp only [Act.put, List.setIfInBounds_toArray, List.set_cons_zero, List.set_cons_succ])
  refine wpAnyH_done (by kernel_rfl) ?_ _
  have hsz := hst2.size
  have hszd := hs0.size
  go_wp2_with fail
  go_ret
  exact ⟨_, rfl, by omega, ⟨⟨A2, c2, Blk.new _ _ _, own_base (own_only hown2 hs3 (fun _ _ h => h)) (Nat.zero_le _)⟩, hI⟩, (hs0.still hst2).still hs3⟩

set_option maxRecDepth 1000000 in
set_option maxHeartbeats 6400000 in
/-- alike: a table stands as the document's. -/
theorem alike_any {w : World} {t x n : Nat} {bs : List Nat} {L : List Out} (hP : PT w t bs L) (hR : RT w x n L) (hn : bs.length = n) (hL : L.length ≤ 60000) :
    Calls Try.prog 25 #[.pointer (some ⟨t, 0, none⟩), .pointer (some ⟨x, 0, none⟩)] w fun e w' => e = .returned (.bool true) ∧ ∃ k, w' = w.drewN k := by
  have hn9 : n ≤ 9 := by rw [← hn]; exact hP.nine
  have HP := Lib.hid hP
  have HR := Lib.hid hR
  have Hn := Lib.hid hn
  obtain ⟨A, c, b1, b2⟩ := hR.tab
  have x0 := b1.cell 0
  have x1 := b1.cell 1
  simp at x0 x1
  have hcs : ∀ k o, L[k]? = some o → ∃ g, A = some ⟨g, 0, none⟩ ∧ w.cell? ⟨g, k * 3, none⟩ = some (.int .i64 (o.u : Int)) ∧ w.cell? ⟨g, k * 3 + 1, none⟩ = some (.int .i64 o.slot) ∧ w.cell? ⟨g, k * 3 + 2, none⟩ = some (.int .u16 (o.id : Int)) := fun k o hk => own_cells3 b2 hk
  obtain ⟨m, hm⟩ : ∃ m, m = L.length := ⟨_, rfl⟩
  rw [← hm] at x1 hL
  have Hm := Lib.hid hm
  clear hP hR hn b1 b2 hm
  go_enter Try.func25, Try.ntmps25
  go_wp2_with fail
  go_loopw [5] (fun i wr => ∃ k : Nat, k ≤ n + 2 ∧ i = .int .i64 ((k : Int) - 1) ∧ wr = w) (fun i _ => n + 2 - (intOf i + 1).toNat)
  case atStart => exact ⟨0, by omega, rfl, rfl⟩
  case round =>
    obtain ⟨k, hk, rfl, rfl⟩ := hrel
    by_cases hlt : (k : Int) - 1 ≤ n
    · obtain ⟨u, hu⟩ : ∃ u : Int, u = (k : Int) - 1 := ⟨_, rfl⟩
      have hun : -1 ≤ u ∧ u ≤ n := by omega
      have hk1 : (k : Int) = u + 1 := by omega
      have hk2 : k ≤ n + 1 := by omega
      rw [← hu] at hlt ⊢
      obtain ⟨v, hv⟩ : ∃ v, v = lenI n L u := ⟨_, rfl⟩
      have Hv := Lib.hid hv
      have Hk := Lib.hid hk1
      have hw : IntKind.i64.wrap (u + 1) = u + 1 := by rw [IntKind.wrap_i64]; omega
      clear hv hu hcs hk1
      go_wp2_with fail
      refine (len_any HP.out u).mono ?_
      rintro e wz ⟨rfl, rfl⟩
      rw [Hn.out, ← Hv.out]
      go_wp2_with fail
      refine (rlen_any HR.out (by rw [← Hm.out]; omega) u).mono ?_
      rintro e wz ⟨rfl, rfl⟩
      rw [lenR_in HR.out.inv, ← Hv.out]
      go_wp2_with fail
      go_roundw
      case rel => exact ⟨k + 1, by omega, by have := Hk.out; exact vint (by omega), trivial⟩
      case measure => have := Hk.out; simp [intOf]; omega
    · go_wp2_with fail
      go_loopw [6, 7, 8] (fun i _ _ wr' => ∃ k, k ≤ m ∧ i = .int .i64 k ∧ ∃ d, wr' = wr.drewN d) (fun i _ _ _ => m - (intOf i).toNat)
      case atStart => exact ⟨0, Nat.zero_le _, rfl, 0, rfl⟩
      case round =>
        clear hlt
        obtain ⟨j, hj, rfl, d, rfl⟩ := hrel
        by_cases hlt : j < m
        · obtain ⟨o, ho⟩ : ∃ o, L[j]? = some o := ⟨L[j]'(by have := Hm.out; omega), List.getElem?_eq_getElem _⟩
          obtain ⟨g, rfl, d0, d1, d2⟩ := hcs j o ho
          have hfi : findI n L (o.u : Int) o.id = some o.slot := by
            rw [← findR_in HR.out.inv]
            exact findR_yes HR.out.inv (List.mem_of_getElem? ho)
          have hid64 := HR.out.inv.ids o (List.mem_of_getElem? ho)
          have hfd : ∀ e, Calls Try.prog 17 #[.pointer (some ⟨t, 0, none⟩), .int .i64 (o.u : Int), .int .u16 (o.id : Int)] (wr.drewN e) fun e' w' =>
              e' = .returned (.tuple #[.int .i64 o.slot, .bool true]) ∧ wr.drewN e = w' := fun e => by
            have := find_any (HP.out.still (((Only.refl _ wr).drewN e) : Still wr (wr.drewN e))) (o.u : Int) o.id hid64
            rw [Hn.out, hfi] at this
            exact this
          clear ho hcs hfi
          go_wp2_with fail
          go_quiet ((go_at_call 17; exact quiet_add_left (hfd _)))
          go_wp2_with fail
          go_roundw
          case rel => exact ⟨j + 1, hlt, by go_num, _, rfl⟩
          case measure => simp [intOf]; omega
        · clear hcs
          go_wp2_with fail
          go_ret
          exact ⟨rfl, d, rfl⟩
end Go.Proofs.Ythbapdajmpplhaa
