/-
  Package name: the examples are as they are told.
-/
import Derived.Test.YtjenabcjikdnaaaNameParse
namespace Go.Proofs.Ytjenabcjikdnaaa
open Go.RowKit
set_option linter.unusedVariables false
set_option linter.unusedSimpArgs false

def okLb (L : List Lab) : Bool := L.all (fun x => decide (1 ≤ x.length) && decide (x.length ≤ 63)) && decide (sz L + 1 ≤ 255)
theorem okL_of {L : List Lab} (h : okLb L = true) : okL L := by
  unfold okLb at h
  rw [Bool.and_eq_true, decide_eq_true_eq, List.all_eq_true] at h
  exact ⟨fun x hx => by
    have := h.1 x hx
    rw [Bool.and_eq_true, decide_eq_true_eq, decide_eq_true_eq] at this
    exact this, h.2⟩
/-- The names of the example that rise. -/
def rowL : List (List Lab) := [[], [[101, 120]], [[97], [101, 120]], [[97], [97], [101, 120]], [[98], [101, 120]], [[102]]]
theorem row_ok (k : Nat) (h : k < 6) : okL (rowL.getD k []) := by
  apply okL_of
  have : (List.range 6).all (fun k => okLb (rowL.getD k [])) = true := by kernel_rfl
  rw [List.all_eq_true] at this
  exact this k (List.mem_range.2 h)
theorem row_cmp (k : Nat) (h : k < 5) : cmpN (rowL.getD k []) (rowL.getD (k + 1) []) = -1 ∧ cmpN (rowL.getD (k + 1) []) (rowL.getD k []) = 1 := by
  have : (List.range 5).all (fun k => decide (cmpN (rowL.getD k []) (rowL.getD (k + 1) []) = -1) && decide (cmpN (rowL.getD (k + 1) []) (rowL.getD k []) = 1)) = true := by kernel_rfl
  rw [List.all_eq_true] at this
  have := this k (List.mem_range.2 h)
  rw [Bool.and_eq_true, decide_eq_true_eq, decide_eq_true_eq] at this
  exact this
def rowC : Array Value := #[.string ⟨#[0]⟩, .string ⟨#[2, 101, 120, 0]⟩, .string ⟨#[1, 97, 2, 101, 120, 0]⟩, .string ⟨#[1, 97, 1, 97, 2, 101, 120, 0]⟩, .string ⟨#[1, 98, 2, 101, 120, 0]⟩, .string ⟨#[1, 102, 0]⟩]
theorem row_cell (k : Nat) (h : k < 6) : rowC[k]? = some (.string (mk (enc (rowL.getD k [])))) := by
  match k, h with
  | 0, _ => rfl
  | 1, _ => rfl
  | 2, _ => rfl
  | 3, _ => rfl
  | 4, _ => rfl
  | 5, _ => rfl
set_option maxRecDepth 1000000 in
set_option maxHeartbeats 1600000 in
theorem row_any (w : World) : Calls Try.prog 36 #[] w fun e w' => e = .returned (.slice (some ⟨w.heap.size, 0, none⟩) 6 6) ∧ Blk w' w.heap.size 9 rowC ∧ Still w w' := by
  have h1 := Blk.new w 9 rowC
  have h2 := Still.new w (.cells rowC 9)
  unfold rowC at h1 h2 ⊢
  have H1 := Lib.hid h1
  have H2 := Lib.hid h2
  clear h1 h2
  go_enter Try.func36, Try.ntmps36
  go_wp2_with fail
  go_ret
  exact ⟨rfl, H1.out, H2.out⟩

set_option maxRecDepth 1000000 in
set_option maxHeartbeats 6400000 in
theorem name_awake (w : World) : Calls Try.prog 12 #[] w fun e w' => e = .returned (.bool true) ∧ Still w w' := by
  obtain ⟨N, hN⟩ : ∃ N, N = mk (enc [[119, 119, 119], [69, 120]]) := ⟨_, rfl⟩
  obtain ⟨U, hU⟩ : ∃ U, U = mk (enc [[69, 120]]) := ⟨_, rfl⟩
  obtain ⟨R1, hR1⟩ : ∃ R1, R1 = mk (enc (rowL.getD 1 [])) := ⟨_, rfl⟩
  obtain ⟨F, hF⟩ : ∃ F, F = mk (enc [[119, 119, 119], [101, 120]]) := ⟨_, rfl⟩
  obtain ⟨X, hX⟩ : ∃ X, X = mk [119, 119, 119, 46, 69, 120, 46] := ⟨_, rfl⟩
  have okN : okL [[119, 119, 119], [69, 120]] := okL_of (by kernel_rfl)
  have okU : okL [[69, 120]] := okL_of (by kernel_rfl)
  have okR := row_ok 1 (by decide)
  have cP1 : Hid (∀ w, Calls Try.prog 17 #[.string ⟨#[119, 119, 119, 46, 69, 120, 46]⟩] w fun e w' => e = .returned (.tuple #[.string N, .int .i64 0]) ∧ Still w w') := Lib.hid (fun w => by
    rw [hN]
    refine (parse_any ⟨#[119, 119, 119, 46, 69, 120, 46]⟩ (by decide) w).mono ?_
    rintro e w1 ⟨rfl, h1⟩
    rw [show parseB (⟨#[119, 119, 119, 46, 69, 120, 46]⟩ : ByteArray).data.toList = enc [[119, 119, 119], [69, 120]] by kernel_rfl, show parseE (⟨#[119, 119, 119, 46, 69, 120, 46]⟩ : ByteArray).data.toList = 0 by kernel_rfl]
    exact ⟨rfl, h1⟩)
  have cP2 : Hid (∀ w, Calls Try.prog 17 #[.string ⟨#[97, 32, 98]⟩] w fun e w' => e = .returned (.tuple #[.string ⟨#[]⟩, .int .i64 3]) ∧ Still w w') := Lib.hid (fun w => by
    refine (parse_any ⟨#[97, 32, 98]⟩ (by decide) w).mono ?_
    rintro e w1 ⟨rfl, h1⟩
    rw [show parseB (⟨#[97, 32, 98]⟩ : ByteArray).data.toList = [] by kernel_rfl, show parseE (⟨#[97, 32, 98]⟩ : ByteArray).data.toList = 3 by kernel_rfl]
    exact ⟨rfl, h1⟩)
  have cPa : Hid (∀ w, Calls Try.prog 18 #[.string N] w fun e w' => e = .returned (.tuple #[.string U, .bool true]) ∧ Still w w') := Lib.hid (fun w => by
    rw [hN, hU]
    exact parent_up _ _ okN w)
  have cFo : Hid (∀ w, Calls Try.prog 23 #[.string N] w fun e w' => e = .returned (.string F) ∧ Still w w') := Lib.hid (fun w => by
    rw [hN, hF]
    refine (fold_any _ (enc_size okN) w).mono ?_
    rintro e w1 ⟨rfl, h1⟩
    rw [foldS_enc okN, show fold [[119, 119, 119], [69, 120]] = [[119, 119, 119], [101, 120]] by kernel_rfl]
    exact ⟨rfl, h1⟩)
  have cWi : Hid (∀ w, Calls Try.prog 30 #[.string N, .string R1] w fun e w' => e = .returned (.bool true) ∧ Still w w') := Lib.hid (fun w => by
    rw [hN, hR1]
    refine (within_any _ _ okN okR w).mono ?_
    rintro e w1 ⟨rfl, h1⟩
    exact ⟨ret_bool (decide_eq_true ⟨[[119, 119, 119]], by kernel_rfl⟩), h1⟩)
  have cTe : Hid (∀ w, Calls Try.prog 20 #[.string N] w fun e w' => e = .returned (.string X) ∧ Still w w') := Lib.hid (fun w => by
    rw [hN, hX]
    refine (text_any _ okN w).mono ?_
    rintro e w1 ⟨rfl, h1⟩
    rw [show textL [[119, 119, 119], [69, 120]] = [119, 119, 119, 46, 69, 120, 46] by kernel_rfl]
    exact ⟨rfl, h1⟩)
  have cSa : Hid (∀ w, Calls Try.prog 21 #[.string U, .string R1] w fun e w' => e = .returned (.bool true) ∧ Still w w') := Lib.hid (fun w => by
    rw [hU, hR1]
    refine (same_any _ _ (enc_size okU) (enc_size okR) w).mono ?_
    rintro e w1 ⟨rfl, h1⟩
    rw [sameS_enc okU okR]
    exact ⟨ret_bool (decide_eq_true (by kernel_rfl)), h1⟩)
  have q1 : (N.toList == [3, 119, 119, 119, 2, 69, 120, 0]) = true := by rw [hN]; exact eq_list _
  have q2 : (F.toList == [3, 119, 119, 119, 2, 101, 120, 0]) = true := by rw [hF]; exact eq_list _
  have q3 : (U.toList == [2, 69, 120, 0]) = true := by rw [hU]; exact eq_list _
  have q4 : (X.toList == [119, 119, 119, 46, 69, 120, 46]) = true := by rw [hX]; exact eq_list _
  have HR1 := Lib.hid hR1
  clear hN hU hR1 hF hX okN okU okR
  go_enter Try.func12, Try.ntmps12
  go_wp2_with fail
  refine (cP1.out w).mono ?_
  rintro e w1 ⟨rfl, h1⟩
  go_wp2_with fail
  refine (cP2.out w1).mono ?_
  rintro e w2 ⟨rfl, h2⟩
  have h2 := h1.still h2
  go_wp2_with fail
  refine (cPa.out w2).mono ?_
  rintro e w3 ⟨rfl, h3⟩
  have h3 := h2.still h3
  go_wp2_with fail
  refine (row_any w3).mono ?_
  rintro e w4 ⟨rfl, hB, h4⟩
  have h4 := h3.still h4
  obtain ⟨K, hK⟩ : ∃ K, K = w3.heap.size := ⟨_, rfl⟩
  rw [← hK] at hB ⊢
  clear hK h1 h2 h3 cP1 cP2 cPa
  go_wp2_with fail
  go_loopw [8] (fun i wr => ∃ k : Nat, k ≤ 5 ∧ i = .int .i64 ((k + 1 : Nat) : Int) ∧ Blk wr K 9 rowC ∧ Still w wr) (fun i _ => 10 - (intOf i).toNat)
  case atStart => exact ⟨0, by omega, rfl, hB, h4⟩
  case round =>
    clear hB h4
    obtain ⟨k, hk, rfl, hB, hst⟩ := hrel
    by_cases hlt : k < 5
    · have i1 : ((k : Int) + 1) < 6 := by omega
      have cx := (hB.cell k).trans (row_cell k (by omega))
      have cy := (hB.cell (k + 1)).trans (row_cell (k + 1) (by omega))
      have hc := row_cmp k hlt
      have hX := row_ok k (by omega)
      have hY := row_ok (k + 1) (by omega)
      generalize rowL.getD k [] = Lx at *
      generalize rowL.getD (k + 1) [] = Ly at *
      have c1 : Hid (∀ w, Calls Try.prog 22 #[.string (mk (enc Lx)), .string (mk (enc Ly))] w fun e w' => e = .returned (.int .i64 (-1)) ∧ Still w w') := Lib.hid (fun w => by
        refine (compare_any Lx Ly hX hY w).mono ?_
        rintro e w1 ⟨rfl, h1⟩
        rw [hc.1]
        exact ⟨rfl, h1⟩)
      have c2 : Hid (∀ w, Calls Try.prog 22 #[.string (mk (enc Ly)), .string (mk (enc Lx))] w fun e w' => e = .returned (.int .i64 1) ∧ Still w w') := Lib.hid (fun w => by
        refine (compare_any Ly Lx hY hX w).mono ?_
        rintro e w1 ⟨rfl, h1⟩
        rw [hc.2]
        exact ⟨rfl, h1⟩)
      have y0 : IntKind.i64.wrap (k : Int) = (k : Int) := IntWalk.i64_in _ (by omega)
      have i6 : (k : Int) < 6 := by omega
      have i7 : (0 : Int) ≤ (k : Int) + 1 := by omega
      have i8 : ((k : Int) + 1).toNat = k + 1 := by omega
      have y1 : IntKind.i64.wrap ((k : Int) + 1 - 1) = (k : Int) := by rw [IntWalk.i64_in _ (by omega)]; omega
      have y2 : IntKind.i64.wrap ((k : Int) + 1 + 1) = ((k + 1 + 1 : Nat) : Int) := by rw [IntWalk.i64_in _ (by omega)]; push_cast; rfl
      generalize mk (enc Lx) = x at *
      generalize mk (enc Ly) = y at *
      clear hc hX hY
      go_wp2_with fail
      have hsd : Still wr wr.drew := (Only.refl _ _).drew
      have hB2 := hB.only hsd (fun h => h)
      have hst2 := hst.still hsd
      have dx := hsd.cell_some (fun h => h) cx
      have dy := hsd.cell_some (fun h => h) cy
      clear hB hst cx cy
      refine wp_region_held_drew (S := fun w' => Still wr.drew w') (by kernel_rfl) (Only.refl _ _) (fun hS => ?_)
      generalize wr.drew = wd at *
      (refine take_p (i := 0) (v := ?_) rfl (by kernel_rfl) (by kernel_rfl) (by kernel_rfl) (fun _ _ _ h => h) (Or.inl ⟨by rfl, ?_⟩) hS ?_; rotate_left; (focus (intro w0 hSw; go_simp; try with_reducible rfl)); try simp only [Act.put, List.setIfInBounds_toArray, List.set_cons_zero, List.set_cons_succ])
      (refine take_p (i := 1) (v := ?_) rfl (by kernel_rfl) (by kernel_rfl) (by kernel_rfl) (fun _ _ _ h => h) (Or.inl ⟨by rfl, ?_⟩) hS ?_; rotate_left; (focus (intro w0 hSw; go_simp; try with_reducible rfl)); try simp only [Act.put, List.setIfInBounds_toArray, List.set_cons_zero, List.set_cons_succ])
      (refine take_p (i := 2) (v := ?_) rfl (by kernel_rfl) (by kernel_rfl) (by kernel_rfl) (fun _ _ _ h => h) (Or.inl ⟨by rfl, ?_⟩) hS ?_; rotate_left; (focus (intro w0 hSw; go_simp; try with_reducible rfl)); try simp only [Act.put, List.setIfInBounds_toArray, List.set_cons_zero, List.set_cons_succ])
      (refine take_p (i := 3) (v := ?_) rfl (by kernel_rfl) (by kernel_rfl) (by kernel_rfl) (fun _ _ _ h => h) (Or.inl ⟨by rfl, ?_⟩) hS ?_; rotate_left; (focus (intro w0 hSw; go_simp; try with_reducible rfl)); try simp only [Act.put, List.setIfInBounds_toArray, List.set_cons_zero, List.set_cons_succ])
      (refine take_p (i := 4) (v := ?_) rfl (by kernel_rfl) (by kernel_rfl) (by kernel_rfl) (fun _ _ _ h => h) (Or.inl ⟨by rfl, ?_⟩) hS ?_; rotate_left; (focus (intro w0 hSw; have q_ := hSw.cell_some (fun h => h) dx; go_simp; try with_reducible rfl)); try simp only [Act.put, List.setIfInBounds_toArray, List.set_cons_zero, List.set_cons_succ])
      (refine take_p (i := 5) (v := ?_) rfl (by kernel_rfl) (by kernel_rfl) (by kernel_rfl) (fun _ _ _ h => h) (Or.inl ⟨by rfl, ?_⟩) hS ?_; rotate_left; (focus (intro w0 hSw; go_simp; try with_reducible rfl)); try simp only [Act.put, List.setIfInBounds_toArray, List.set_cons_zero, List.set_cons_succ])
      (refine take_p (i := 6) (v := ?_) rfl (by kernel_rfl) (by kernel_rfl) (by kernel_rfl) (fun _ _ _ h => h) (Or.inl ⟨by rfl, ?_⟩) hS ?_; rotate_left; (focus (intro w0 hSw; go_simp; try with_reducible rfl)); try simp only [Act.put, List.setIfInBounds_toArray, List.set_cons_zero, List.set_cons_succ])
      (refine take_p (i := 7) (v := ?_) rfl (by kernel_rfl) (by kernel_rfl) (by kernel_rfl) (fun _ _ _ h => h) (Or.inl ⟨by rfl, ?_⟩) hS ?_; rotate_left; (focus (intro w0 hSw; go_simp; try with_reducible rfl)); try simp only [Act.put, List.setIfInBounds_toArray, List.set_cons_zero, List.set_cons_succ])
      (refine take_p (i := 8) (v := ?_) rfl (by kernel_rfl) (by kernel_rfl) (by kernel_rfl) (fun _ _ _ h => h) (Or.inl ⟨by rfl, ?_⟩) hS ?_; rotate_left; (focus (intro w0 hSw; have q_ := hSw.cell_some (fun h => h) dy; go_simp; try with_reducible rfl)); try simp only [Act.put, List.setIfInBounds_toArray, List.set_cons_zero, List.set_cons_succ])
      refine wpAnyH_ready (rs := [9]) (by kernel_rfl) (by simp) ?_
      refine cons_p rfl (fun K_ hK => ?_) AllReadyH.nil
      go_simp
      refine (c1.out _).mono ?_
      rintro e wa ⟨rfl, ha⟩
      refine hK.out _ _ (hS.still ha) (fun hHeld => ?_)
      clear hK K_ hHeld
      try simp only [Act.put, List.setIfInBounds_toArray, List.set_cons_zero, List.set_cons_succ]
      replace hS := hS.still ha
      (refine take_p (i := 10) (v := ?_) rfl (by kernel_rfl) (by kernel_rfl) (by kernel_rfl) (fun _ _ _ h => h) (Or.inl ⟨by rfl, ?_⟩) hS ?_; rotate_left; (focus (intro w0 hSw; go_simp; try with_reducible rfl)); try simp only [Act.put, List.setIfInBounds_toArray, List.set_cons_zero, List.set_cons_succ])
      (refine take_p (i := 11) (v := ?_) rfl (by kernel_rfl) (by kernel_rfl) (by kernel_rfl) (fun _ _ _ h => h) (Or.inl ⟨by rfl, ?_⟩) hS ?_; rotate_left; (focus (intro w0 hSw; go_simp; try with_reducible rfl)); try simp only [Act.put, List.setIfInBounds_toArray, List.set_cons_zero, List.set_cons_succ])
      (refine take_p (i := 12) (v := ?_) rfl (by kernel_rfl) (by kernel_rfl) (by kernel_rfl) (fun _ _ _ h => h) (Or.inl ⟨by rfl, ?_⟩) hS ?_; rotate_left; (focus (intro w0 hSw; go_simp; try with_reducible rfl)); try simp only [Act.put, List.setIfInBounds_toArray, List.set_cons_zero, List.set_cons_succ])
      (refine take_p (i := 13) (v := ?_) rfl (by kernel_rfl) (by kernel_rfl) (by kernel_rfl) (fun _ _ _ h => h) (Or.inl ⟨by rfl, ?_⟩) hS ?_; rotate_left; (focus (intro w0 hSw; go_simp; try with_reducible rfl)); try simp only [Act.put, List.setIfInBounds_toArray, List.set_cons_zero, List.set_cons_succ])
      (refine take_p (i := 14) (v := ?_) rfl (by kernel_rfl) (by kernel_rfl) (by kernel_rfl) (fun _ _ _ h => h) (Or.inl ⟨by rfl, ?_⟩) hS ?_; rotate_left; (focus (intro w0 hSw; go_simp; try with_reducible rfl)); try simp only [Act.put, List.setIfInBounds_toArray, List.set_cons_zero, List.set_cons_succ])
      (refine take_p (i := 15) (v := ?_) rfl (by kernel_rfl) (by kernel_rfl) (by kernel_rfl) (fun _ _ _ h => h) (Or.inl ⟨by rfl, ?_⟩) hS ?_; rotate_left; (focus (intro w0 hSw; have q_ := hSw.cell_some (fun h => h) dy; go_simp; try with_reducible rfl)); try simp only [Act.put, List.setIfInBounds_toArray, List.set_cons_zero, List.set_cons_succ])
      (refine take_p (i := 16) (v := ?_) rfl (by kernel_rfl) (by kernel_rfl) (by kernel_rfl) (fun _ _ _ h => h) (Or.inl ⟨by rfl, ?_⟩) hS ?_; rotate_left; (focus (intro w0 hSw; go_simp; try with_reducible rfl)); try simp only [Act.put, List.setIfInBounds_toArray, List.set_cons_zero, List.set_cons_succ])
      (refine take_p (i := 17) (v := ?_) rfl (by kernel_rfl) (by kernel_rfl) (by kernel_rfl) (fun _ _ _ h => h) (Or.inl ⟨by rfl, ?_⟩) hS ?_; rotate_left; (focus (intro w0 hSw; go_simp; try with_reducible rfl)); try simp only [Act.put, List.setIfInBounds_toArray, List.set_cons_zero, List.set_cons_succ])
      (refine take_p (i := 18) (v := ?_) rfl (by kernel_rfl) (by kernel_rfl) (by kernel_rfl) (fun _ _ _ h => h) (Or.inl ⟨by rfl, ?_⟩) hS ?_; rotate_left; (focus (intro w0 hSw; go_simp; try with_reducible rfl)); try simp only [Act.put, List.setIfInBounds_toArray, List.set_cons_zero, List.set_cons_succ])
      (refine take_p (i := 19) (v := ?_) rfl (by kernel_rfl) (by kernel_rfl) (by kernel_rfl) (fun _ _ _ h => h) (Or.inl ⟨by rfl, ?_⟩) hS ?_; rotate_left; (focus (intro w0 hSw; go_simp; try with_reducible rfl)); try simp only [Act.put, List.setIfInBounds_toArray, List.set_cons_zero, List.set_cons_succ])
      (refine take_p (i := 20) (v := ?_) rfl (by kernel_rfl) (by kernel_rfl) (by kernel_rfl) (fun _ _ _ h => h) (Or.inl ⟨by rfl, ?_⟩) hS ?_; rotate_left; (focus (intro w0 hSw; have q_ := hSw.cell_some (fun h => h) dx; go_simp; try with_reducible rfl)); try simp only [Act.put, List.setIfInBounds_toArray, List.set_cons_zero, List.set_cons_succ])
      refine wpAnyH_ready (rs := [21]) (by kernel_rfl) (by simp) ?_
      refine cons_p rfl (fun K_ hK => ?_) AllReadyH.nil
      go_simp
      refine (c2.out _).mono ?_
      rintro e wb ⟨rfl, hb⟩
      refine hK.out _ _ (hS.still hb) (fun hHeld => ?_)
      clear hK K_ hHeld
      try simp only [Act.put, List.setIfInBounds_toArray, List.set_cons_zero, List.set_cons_succ]
      replace hS := hS.still hb
      (refine take_p (i := 22) (v := ?_) rfl (by kernel_rfl) (by kernel_rfl) (by kernel_rfl) (fun _ _ _ h => h) (Or.inl ⟨by rfl, ?_⟩) hS ?_; rotate_left; (focus (intro w0 hSw; go_simp; try with_reducible rfl)); try simp only [Act.put, List.setIfInBounds_toArray, List.set_cons_zero, List.set_cons_succ])
      (refine take_p (i := 23) (v := ?_) rfl (by kernel_rfl) (by kernel_rfl) (by kernel_rfl) (fun _ _ _ h => h) (Or.inl ⟨by rfl, ?_⟩) hS ?_; rotate_left; (focus (intro w0 hSw; go_simp; try with_reducible rfl)); try simp only [Act.put, List.setIfInBounds_toArray, List.set_cons_zero, List.set_cons_succ])
      refine wpAnyH_done (by kernel_rfl) ?_ _
      have hBf := hB2.only hS (fun h => h)
      have hsf := hst2.still hS
      clear dx dy c1 c2 hB2 hst2 ha hb hS
      go_wp2_with fail
      exact ⟨⟨k + 1, by omega, by push_cast; rfl, hBf, hsf⟩, by simp [intOf]; omega⟩
    · have i1 : ¬ ((k : Int) + 1) < 6 := by omega
      have cy := (hB.cell 1).trans (row_cell 1 (by decide))
      rw [← HR1.out] at cy
      have hBl := hB.lt
      go_wp2_with fail
      refine (cFo.out wr).mono ?_
      rintro e wa ⟨rfl, ha⟩
      have cy := ha.cell_some (fun h => h) cy
      have hsa := hst.still ha
      clear hst ha hB cFo
      go_wp2_with fail
      refine (cWi.out wa).mono ?_
      rintro e wb ⟨rfl, hb⟩
      have cy := hb.cell_some (fun h => h) cy
      have hsb := hsa.still hb
      clear hsa hb cWi
      go_wp2_with fail
      refine (cTe.out wb).mono ?_
      rintro e wc ⟨rfl, hc⟩
      have cy := hc.cell_some (fun h => h) cy
      have hsc := hsb.still hc
      clear hsb hc cTe
      go_wp2_with fail
      refine (cSa.out wc).mono ?_
      rintro e wd ⟨rfl, hd⟩
      have hsd := hsc.still hd
      go_wp2_with fail
      go_ret
      exact ⟨rfl, hsd⟩
end Go.Proofs.Ytjenabcjikdnaaa
