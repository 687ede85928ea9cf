/-
  CursorPuts: what Put1, Put2 and Put4 leave is the slice's bytes and, behind them, the number's, and the slice is as it was; for every slice of at most 20000 bytes and all numbers.
-/
import Derived.Test.YtkpogngbajkgmaaDoorCurPutRef
import Derived.Test.YtkpogngbajkgmaaDoorTake
import Derived.Test.YtkpogngbajkgmaaDoorOpen
namespace Go.Proofs.YtkpogngbajkgmaaDoor
open Go.RowKit
set_option linter.unusedVariables false

theorem bytes_of : ∀ xs : List Int, (∀ x ∈ xs, 0 ≤ x ∧ x < 256) → ∃ l : List UInt8, xs.map (Value.int .u8) = bv l
  | [], _ => ⟨[], rfl⟩
  | x :: xs, h => by
    obtain ⟨l, hl⟩ := bytes_of xs (fun y hy => h y (List.mem_cons_of_mem _ hy))
    obtain ⟨h0, h1⟩ := h x (List.mem_cons_self ..)
    refine ⟨UInt8.ofNat x.toNat :: l, ?_⟩
    have e : x = ((UInt8.ofNat x.toNat).toNat : Int) := by simp; omega
    rw [List.map_cons, hl]
    show _ = Value.int .u8 ((UInt8.ofNat x.toNat).toNat : Int) :: bv l
    rw [← e]
theorem Reads.conv_ {w w' : World} {n c : Nat} {A : Option Addr} {l : List UInt8} (h : Reads w w.heap.size 1 A n (bv l)) (hs : Still w w') :
    (convert 34 9 (.slice A n c)).run Tryd.prog w' = .ok (.string (str l)) w' := by
  have hl : l.length = n := by have := h.1; rw [bv_length] at this; omega
  have h' := h.only hs (Nat.le_refl _) (fun _ _ h => h)
  subst hl
  cases A with
  | none =>
    have h0 : l = [] := by
      cases l with
      | nil => rfl
      | cons b l => obtain ⟨ad, u, e, _⟩ := h'.at_ (k := 0) (by simp); cases e
    subst h0
    exact run_convert_bytes_nil (P := Tryd.prog) w' 34 5 Tryd.underlying34 Tryd.underlying5 _ _ 9 Tryd.underlying9
  | some ad =>
    exact run_convert_bytes_back w' 34 9 5 ad c l Tryd.underlying34 Tryd.underlying5 Tryd.underlying9 (fun j hj => by
      obtain ⟨ad', u, e, _, hu, hc⟩ := h'.at_ (k := j) hj
      injection e with e
      subst e
      rw [hc, ← hu, bv, List.getElem?_map, List.getElem?_eq_getElem hj]
      rfl)
theorem Reads.at_still {w w' : World} {n : Nat} {A : Option Addr} {xs : List Value} (h : Reads w w.heap.size 1 A n xs) (hs : Still w w') : Reads w' w'.heap.size 1 A n xs :=
  (h.only hs (Nat.le_refl _) (fun _ _ h => h)).more hs.size

set_option linter.unusedSimpArgs false in
set_option maxRecDepth 1000000 in
set_option maxHeartbeats 1600000 in
theorem puts_walk (w : World) (he : ErrT w) (A : Option Addr) (n c : Nat) (l : List UInt8) (hn : n ≤ 20000) (hr : Reads w w.heap.size 1 A n (bv l)) (x y z : Nat) (hx : x < 256) (hy : y < 65536) (hz : z < 4294967296) :
    Calls Tryd.prog 4 #[.slice A n c, .int .u8 x, .int .u16 y, .int .u32 z] w fun e w' => e = .returned (.bool true) ∧ Still w w' := by
  have h20 : ¬ (20000 : Int) < (n : Int) := by omega
  have hl : l.length = n := by have := hr.1; rw [bv_length] at this; omega
  have hcv : (convert 34 9 (.slice A n c)).run Tryd.prog w = .ok (.string (str l)) w := hr.conv_ (Only.refl _ _)
  have h0 : Still w w.drew := (Only.refl _ _).drew
  have q1 : str l ++ str (beB 1 x) = str (l ++ beB 1 x) := str_append _ _
  have q2 : str l ++ str (beB 2 y) = str (l ++ beB 2 y) := str_append _ _
  have q4 : str l ++ str (beB 4 z) = str (l ++ beB 4 z) := str_append _ _
  have z1 : ¬ 9223372036854775807 < (str l).size + (str (beB 1 x)).size := by rw [str_size, str_size, beB_length]; omega
  have z2 : ¬ 9223372036854775807 < (str l).size + (str (beB 2 y)).size := by rw [str_size, str_size, beB_length]; omega
  have z4 : ¬ 9223372036854775807 < (str l).size + (str (beB 4 z)).size := by rw [str_size, str_size, beB_length]; omega
  have u1 : IntKind.u64.wrap (x : Int) = (x : Int) := by rw [IntKind.wrap_u64]; omega
  have u2 : IntKind.u64.wrap (y : Int) = (y : Int) := by rw [IntKind.wrap_u64]; omega
  have u4 : IntKind.u64.wrap (z : Int) = (z : Int) := by rw [IntKind.wrap_u64]; omega
  clear hl
  go_enter Tryd.func4, Tryd.ntmps4
  go_wp2_with fail
  clear hcv
  refine wp_region_held_drew (S := fun w' => Still w.drew w') (by kernel_rfl) (Only.refl _ _) (fun hHeld => ?_)
  (refine take_p (i := 0) (v := ?_) rfl (by kernel_rfl) (by kernel_rfl) (by kernel_rfl) (fun _ _ _ h => h) (Or.inl ⟨by rfl, ?_⟩) (by assumption) ?_; rotate_left; (focus (intro w0 hSw; go_simp; try with_reducible rfl)); try simp only [Act.put, List.setIfInBounds_toArray, List.set_cons_zero, List.set_cons_succ])
  (refine take_p (i := 1) (v := ?_) rfl (by kernel_rfl) (by kernel_rfl) (by kernel_rfl) (fun _ _ _ h => h) (Or.inl ⟨by rfl, ?_⟩) (by assumption) ?_; rotate_left; (focus (intro w0 hSw; go_simp; try with_reducible rfl)); try simp only [Act.put, List.setIfInBounds_toArray, List.set_cons_zero, List.set_cons_succ])
  (refine take_p (i := 4) (v := ?_) rfl (by kernel_rfl) (by kernel_rfl) (by kernel_rfl) (fun _ _ _ h => h) (Or.inl ⟨by rfl, ?_⟩) (by assumption) ?_; rotate_left; (focus (intro w0 hSw; go_simp; try with_reducible rfl)); try simp only [Act.put, List.setIfInBounds_toArray, List.set_cons_zero, List.set_cons_succ])
  (refine take_p (i := 5) (v := ?_) rfl (by kernel_rfl) (by kernel_rfl) (by kernel_rfl) (fun _ _ _ h => h) (Or.inl ⟨by rfl, ?_⟩) (by assumption) ?_; rotate_left; (focus (intro w0 hSw; go_simp; try with_reducible rfl)); try simp only [Act.put, List.setIfInBounds_toArray, List.set_cons_zero, List.set_cons_succ])
  (refine take_p (i := 6) (v := ?_) rfl (by kernel_rfl) (by kernel_rfl) (by kernel_rfl) (fun _ _ _ h => h) (Or.inl ⟨by rfl, ?_⟩) (by assumption) ?_; rotate_left; (focus (intro w0 hSw; go_simp; try with_reducible rfl)); try simp only [Act.put, List.setIfInBounds_toArray, List.set_cons_zero, List.set_cons_succ])
  refine wpAnyH_ready (rs := [2]) (by kernel_rfl) (by simp) ?_
  refine cons_p rfl (fun K hK => ?_) AllReadyH.nil
  go_simp
  go_at_call 27; refine (Put1_any A n c l _ (hr.at_still h0) (by omega) x hx).mono ?_; rintro e w1 ⟨g1, rfl, -, o1, s1⟩; have k1 : Still w w1 := h0.still s1; have v1 : ∀ w', Still w1 w' → (convert 34 9 (.slice (some ⟨g1, 0, none⟩) (n + 1) (n + 1))).run Tryd.prog w' = .ok (.string (str (l ++ beB 1 x))) w' := fun w' hw => conv_own (own_only o1 hw (fun _ _ h => h))
  refine hK.out _ _ s1 (fun hHeld => ?_)
  clear hK K hHeld
  try simp only [Act.put, List.setIfInBounds_toArray, List.set_cons_zero, List.set_cons_succ]
  refine held_mono (S' := fun w' => Still w1 w') (fun _ h => s1.still h) ?_
  have hHeld : (fun w' : World => Still w1 w') w1 := Only.refl _ _
  (refine take_p (i := 3) (v := ?_) rfl (by kernel_rfl) (by kernel_rfl) (by kernel_rfl) (fun _ _ _ h => h) (Or.inl ⟨by rfl, ?_⟩) (by assumption) ?_; rotate_left; (focus (intro w0 hSw; have hc := v1 w0 hSw; go_simp; try with_reducible rfl)); try simp only [Act.put, List.setIfInBounds_toArray, List.set_cons_zero, List.set_cons_succ])
  refine wpAnyH_ready (rs := [7]) (by kernel_rfl) (by simp) ?_
  refine cons_p rfl (fun K hK => ?_) AllReadyH.nil
  go_simp
  go_at_call 28; refine (put_ref _ x 1 (by omega) (by omega)).mono ?_; rintro e w2 ⟨rfl, s2⟩; have k2 : Still w w2 := k1.still s2
  refine hK.out _ _ s2 (fun hHeld => ?_)
  clear hK K hHeld
  try simp only [Act.put, List.setIfInBounds_toArray, List.set_cons_zero, List.set_cons_succ]
  refine held_mono (S' := fun w' => Still w2 w') (fun _ h => s2.still h) ?_
  have hHeld : (fun w' : World => Still w2 w') w2 := Only.refl _ _
  (refine take_p (i := 8) (v := ?_) rfl (by kernel_rfl) (by kernel_rfl) (by kernel_rfl) (fun _ _ _ h => h) (Or.inl ⟨by rfl, ?_⟩) (by assumption) ?_; rotate_left; (focus (intro w0 hSw; go_simp; try with_reducible rfl)); try simp only [Act.put, List.setIfInBounds_toArray, List.set_cons_zero, List.set_cons_succ])
  (refine take_p (i := 9) (v := ?_) rfl (by kernel_rfl) (by kernel_rfl) (by kernel_rfl) (fun _ _ _ h => h) (Or.inl ⟨by rfl, ?_⟩) (by assumption) ?_; rotate_left; (focus (intro w0 hSw; go_simp; try with_reducible rfl)); try simp only [Act.put, List.setIfInBounds_toArray, List.set_cons_zero, List.set_cons_succ])
  (refine take_p (i := 10) (v := ?_) rfl (by kernel_rfl) (by kernel_rfl) (by kernel_rfl) (fun _ _ _ h => h) (Or.inl ⟨by rfl, ?_⟩) (by assumption) ?_; rotate_left; (focus (intro w0 hSw; go_simp; try with_reducible rfl)); try simp only [Act.put, List.setIfInBounds_toArray, List.set_cons_zero, List.set_cons_succ])
  (refine take_p (i := 11) (v := ?_) rfl (by kernel_rfl) (by kernel_rfl) (by kernel_rfl) (fun _ _ _ h => h) (Or.inl ⟨by rfl, ?_⟩) (by assumption) ?_; rotate_left; (focus (intro w0 hSw; go_simp; try with_reducible rfl)); try simp only [Act.put, List.setIfInBounds_toArray, List.set_cons_zero, List.set_cons_succ])
  (refine take_p (i := 12) (v := ?_) rfl (by kernel_rfl) (by kernel_rfl) (by kernel_rfl) (fun _ _ _ h => h) (Or.inl ⟨by rfl, ?_⟩) (by assumption) ?_; rotate_left; (focus (intro w0 hSw; go_simp; try with_reducible rfl)); try simp only [Act.put, List.setIfInBounds_toArray, List.set_cons_zero, List.set_cons_succ])
  (refine take_p (i := 15) (v := ?_) rfl (by kernel_rfl) (by kernel_rfl) (by kernel_rfl) (fun _ _ _ h => h) (Or.inl ⟨by rfl, ?_⟩) (by assumption) ?_; rotate_left; (focus (intro w0 hSw; go_simp; try with_reducible rfl)); try simp only [Act.put, List.setIfInBounds_toArray, List.set_cons_zero, List.set_cons_succ])
  (refine take_p (i := 16) (v := ?_) rfl (by kernel_rfl) (by kernel_rfl) (by kernel_rfl) (fun _ _ _ h => h) (Or.inl ⟨by rfl, ?_⟩) (by assumption) ?_; rotate_left; (focus (intro w0 hSw; go_simp; try with_reducible rfl)); try simp only [Act.put, List.setIfInBounds_toArray, List.set_cons_zero, List.set_cons_succ])
  (refine take_p (i := 17) (v := ?_) rfl (by kernel_rfl) (by kernel_rfl) (by kernel_rfl) (fun _ _ _ h => h) (Or.inl ⟨by rfl, ?_⟩) (by assumption) ?_; rotate_left; (focus (intro w0 hSw; go_simp; try with_reducible rfl)); try simp only [Act.put, List.setIfInBounds_toArray, List.set_cons_zero, List.set_cons_succ])
  refine wpAnyH_ready (rs := [13]) (by kernel_rfl) (by simp) ?_
  refine cons_p rfl (fun K hK => ?_) AllReadyH.nil
  go_simp
  go_at_call 29; refine (Put2_any A n c l _ (hr.at_still k2) (by omega) y hy).mono ?_; rintro e w3 ⟨g3, rfl, -, o3, s3⟩; have k3 : Still w w3 := k2.still s3; have v3 : ∀ w', Still w3 w' → (convert 34 9 (.slice (some ⟨g3, 0, none⟩) (n + 2) (n + 2))).run Tryd.prog w' = .ok (.string (str (l ++ beB 2 y))) w' := fun w' hw => conv_own (own_only o3 hw (fun _ _ h => h))
  refine hK.out _ _ s3 (fun hHeld => ?_)
  clear hK K hHeld
  try simp only [Act.put, List.setIfInBounds_toArray, List.set_cons_zero, List.set_cons_succ]
  refine held_mono (S' := fun w' => Still w3 w') (fun _ h => s3.still h) ?_
  have hHeld : (fun w' : World => Still w3 w') w3 := Only.refl _ _
  (refine take_p (i := 14) (v := ?_) rfl (by kernel_rfl) (by kernel_rfl) (by kernel_rfl) (fun _ _ _ h => h) (Or.inl ⟨by rfl, ?_⟩) (by assumption) ?_; rotate_left; (focus (intro w0 hSw; have hc := v3 w0 hSw; go_simp; try with_reducible rfl)); try simp only [Act.put, List.setIfInBounds_toArray, List.set_cons_zero, List.set_cons_succ])
  refine wpAnyH_ready (rs := [18]) (by kernel_rfl) (by simp) ?_
  refine cons_p rfl (fun K hK => ?_) AllReadyH.nil
  go_simp
  go_at_call 28; refine (put_ref _ y 2 (by omega) (by omega)).mono ?_; rintro e w4 ⟨rfl, s4⟩; have k4 : Still w w4 := k3.still s4
  refine hK.out _ _ s4 (fun hHeld => ?_)
  clear hK K hHeld
  try simp only [Act.put, List.setIfInBounds_toArray, List.set_cons_zero, List.set_cons_succ]
  refine held_mono (S' := fun w' => Still w4 w') (fun _ h => s4.still h) ?_
  have hHeld : (fun w' : World => Still w4 w') w4 := Only.refl _ _
  (refine take_p (i := 19) (v := ?_) rfl (by kernel_rfl) (by kernel_rfl) (by kernel_rfl) (fun _ _ _ h => h) (Or.inl ⟨by rfl, ?_⟩) (by assumption) ?_; rotate_left; (focus (intro w0 hSw; go_simp; try with_reducible rfl)); try simp only [Act.put, List.setIfInBounds_toArray, List.set_cons_zero, List.set_cons_succ])
  (refine take_p (i := 20) (v := ?_) rfl (by kernel_rfl) (by kernel_rfl) (by kernel_rfl) (fun _ _ _ h => h) (Or.inl ⟨by rfl, ?_⟩) (by assumption) ?_; rotate_left; (focus (intro w0 hSw; go_simp; try with_reducible rfl)); try simp only [Act.put, List.setIfInBounds_toArray, List.set_cons_zero, List.set_cons_succ])
  (refine take_p (i := 21) (v := ?_) rfl (by kernel_rfl) (by kernel_rfl) (by kernel_rfl) (fun _ _ _ h => h) (Or.inl ⟨by rfl, ?_⟩) (by assumption) ?_; rotate_left; (focus (intro w0 hSw; go_simp; try with_reducible rfl)); try simp only [Act.put, List.setIfInBounds_toArray, List.set_cons_zero, List.set_cons_succ])
  (refine take_p (i := 22) (v := ?_) rfl (by kernel_rfl) (by kernel_rfl) (by kernel_rfl) (fun _ _ _ h => h) (Or.inl ⟨by rfl, ?_⟩) (by assumption) ?_; rotate_left; (focus (intro w0 hSw; go_simp; try with_reducible rfl)); try simp only [Act.put, List.setIfInBounds_toArray, List.set_cons_zero, List.set_cons_succ])
  (refine take_p (i := 23) (v := ?_) rfl (by kernel_rfl) (by kernel_rfl) (by kernel_rfl) (fun _ _ _ h => h) (Or.inl ⟨by rfl, ?_⟩) (by assumption) ?_; rotate_left; (focus (intro w0 hSw; go_simp; try with_reducible rfl)); try simp only [Act.put, List.setIfInBounds_toArray, List.set_cons_zero, List.set_cons_succ])
  (refine take_p (i := 24) (v := ?_) rfl (by kernel_rfl) (by kernel_rfl) (by kernel_rfl) (fun _ _ _ h => h) (Or.inl ⟨by rfl, ?_⟩) (by assumption) ?_; rotate_left; (focus (intro w0 hSw; go_simp; try with_reducible rfl)); try simp only [Act.put, List.setIfInBounds_toArray, List.set_cons_zero, List.set_cons_succ])
  (refine take_p (i := 27) (v := ?_) rfl (by kernel_rfl) (by kernel_rfl) (by kernel_rfl) (fun _ _ _ h => h) (Or.inl ⟨by rfl, ?_⟩) (by assumption) ?_; rotate_left; (focus (intro w0 hSw; go_simp; try with_reducible rfl)); try simp only [Act.put, List.setIfInBounds_toArray, List.set_cons_zero, List.set_cons_succ])
  (refine take_p (i := 28) (v := ?_) rfl (by kernel_rfl) (by kernel_rfl) (by kernel_rfl) (fun _ _ _ h => h) (Or.inl ⟨by rfl, ?_⟩) (by assumption) ?_; rotate_left; (focus (intro w0 hSw; go_simp; try with_reducible rfl)); try simp only [Act.put, List.setIfInBounds_toArray, List.set_cons_zero, List.set_cons_succ])
  (refine take_p (i := 29) (v := ?_) rfl (by kernel_rfl) (by kernel_rfl) (by kernel_rfl) (fun _ _ _ h => h) (Or.inl ⟨by rfl, ?_⟩) (by assumption) ?_; rotate_left; (focus (intro w0 hSw; go_simp; try with_reducible rfl)); try simp only [Act.put, List.setIfInBounds_toArray, List.set_cons_zero, List.set_cons_succ])
  refine wpAnyH_ready (rs := [25]) (by kernel_rfl) (by simp) ?_
  refine cons_p rfl (fun K hK => ?_) AllReadyH.nil
  go_simp
  go_at_call 30; refine (Put4_any A n c l _ (hr.at_still k4) (by omega) z hz).mono ?_; rintro e w5 ⟨g5, rfl, -, o5, s5⟩; have k5 : Still w w5 := k4.still s5; have v5 : ∀ w', Still w5 w' → (convert 34 9 (.slice (some ⟨g5, 0, none⟩) (n + 4) (n + 4))).run Tryd.prog w' = .ok (.string (str (l ++ beB 4 z))) w' := fun w' hw => conv_own (own_only o5 hw (fun _ _ h => h))
  refine hK.out _ _ s5 (fun hHeld => ?_)
  clear hK K hHeld
  try simp only [Act.put, List.setIfInBounds_toArray, List.set_cons_zero, List.set_cons_succ]
  refine held_mono (S' := fun w' => Still w5 w') (fun _ h => s5.still h) ?_
  have hHeld : (fun w' : World => Still w5 w') w5 := Only.refl _ _
  (refine take_p (i := 26) (v := ?_) rfl (by kernel_rfl) (by kernel_rfl) (by kernel_rfl) (fun _ _ _ h => h) (Or.inl ⟨by rfl, ?_⟩) (by assumption) ?_; rotate_left; (focus (intro w0 hSw; have hc := v5 w0 hSw; go_simp; try with_reducible rfl)); try simp only [Act.put, List.setIfInBounds_toArray, List.set_cons_zero, List.set_cons_succ])
  refine wpAnyH_ready (rs := [30]) (by kernel_rfl) (by simp) ?_
  refine cons_p rfl (fun K hK => ?_) AllReadyH.nil
  go_simp
  go_at_call 28; refine (put_ref _ z 4 (by omega) (by omega)).mono ?_; rintro e w6 ⟨rfl, s6⟩; have k6 : Still w w6 := k5.still s6
  refine hK.out _ _ s6 (fun hHeld => ?_)
  clear hK K hHeld
  try simp only [Act.put, List.setIfInBounds_toArray, List.set_cons_zero, List.set_cons_succ]
  refine held_mono (S' := fun w' => Still w6 w') (fun _ h => s6.still h) ?_
  have hHeld : (fun w' : World => Still w6 w') w6 := Only.refl _ _
  (refine take_p (i := 31) (v := ?_) rfl (by kernel_rfl) (by kernel_rfl) (by kernel_rfl) (fun _ _ _ h => h) (Or.inl ⟨by rfl, ?_⟩) (by assumption) ?_; rotate_left; (focus (intro w0 hSw; go_simp; try with_reducible rfl)); try simp only [Act.put, List.setIfInBounds_toArray, List.set_cons_zero, List.set_cons_succ])
  (refine take_p (i := 32) (v := ?_) rfl (by kernel_rfl) (by kernel_rfl) (by kernel_rfl) (fun _ _ _ h => h) (Or.inl ⟨by rfl, ?_⟩) (by assumption) ?_; rotate_left; (focus (intro w0 hSw; go_simp; try with_reducible rfl)); try simp only [Act.put, List.setIfInBounds_toArray, List.set_cons_zero, List.set_cons_succ])
  (refine take_p (i := 33) (v := ?_) rfl (by kernel_rfl) (by kernel_rfl) (by kernel_rfl) (fun _ _ _ h => h) (Or.inl ⟨by rfl, ?_⟩) (by assumption) ?_; rotate_left; (focus (intro w0 hSw; go_simp; try with_reducible rfl)); try simp only [Act.put, List.setIfInBounds_toArray, List.set_cons_zero, List.set_cons_succ])
  (refine take_p (i := 34) (v := ?_) rfl (by kernel_rfl) (by kernel_rfl) (by kernel_rfl) (fun _ _ _ h => h) (Or.inl ⟨by rfl, ?_⟩) (by assumption) ?_; rotate_left; (focus (intro w0 hSw; go_simp; try with_reducible rfl)); try simp only [Act.put, List.setIfInBounds_toArray, List.set_cons_zero, List.set_cons_succ])
  (refine take_p (i := 35) (v := ?_) rfl (by kernel_rfl) (by kernel_rfl) (by kernel_rfl) (fun _ _ _ h => h) (Or.inl ⟨by rfl, ?_⟩) (by assumption) ?_; rotate_left; (focus (intro w0 hSw; go_simp; try with_reducible rfl)); try simp only [Act.put, List.setIfInBounds_toArray, List.set_cons_zero, List.set_cons_succ])
  (refine take_p (i := 36) (v := ?_) rfl (by kernel_rfl) (by kernel_rfl) (by kernel_rfl) (fun _ _ _ h => h) (Or.inl ⟨by rfl, ?_⟩) (by assumption) ?_; rotate_left; (focus (intro w0 hSw; have hc := hr.conv_ (c := c) (k6.still hSw); go_simp; try with_reducible rfl)); try simp only [Act.put, List.setIfInBounds_toArray, List.set_cons_zero, List.set_cons_succ])
  (refine take_p (i := 37) (v := ?_) rfl (by kernel_rfl) (by kernel_rfl) (by kernel_rfl) (fun _ _ _ h => h) (Or.inl ⟨by rfl, ?_⟩) (by assumption) ?_; rotate_left; (focus (intro w0 hSw; go_simp; try with_reducible rfl)); try simp only [Act.put, List.setIfInBounds_toArray, List.set_cons_zero, List.set_cons_succ])
  (refine take_p (i := 38) (v := ?_) rfl (by kernel_rfl) (by kernel_rfl) (by kernel_rfl) (fun _ _ _ h => h) (Or.inl ⟨by rfl, ?_⟩) (by assumption) ?_; rotate_left; (focus (intro w0 hSw; go_simp; try with_reducible rfl)); try simp only [Act.put, List.setIfInBounds_toArray, List.set_cons_zero, List.set_cons_succ])
  (refine take_p (i := 39) (v := ?_) rfl (by kernel_rfl) (by kernel_rfl) (by kernel_rfl) (fun _ _ _ h => h) (Or.inl ⟨by rfl, ?_⟩) (by assumption) ?_; rotate_left; (focus (intro w0 hSw; go_simp; try with_reducible rfl)); try simp only [Act.put, List.setIfInBounds_toArray, List.set_cons_zero, List.set_cons_succ])
  (refine take_p (i := 40) (v := ?_) rfl (by kernel_rfl) (by kernel_rfl) (by kernel_rfl) (fun _ _ _ h => h) (Or.inl ⟨by rfl, ?_⟩) (by assumption) ?_; rotate_left; (focus (intro w0 hSw; go_simp; try with_reducible rfl)); try simp only [Act.put, List.setIfInBounds_toArray, List.set_cons_zero, List.set_cons_succ])
  refine wpAnyH_ready (rs := [41]) (by kernel_rfl) (by simp) ?_
  refine cons_p rfl (fun K hK => ?_) AllReadyH.nil
  go_simp
  go_at_call 22; refine (cur_awake _ (he.still k6)).mono ?_; rintro e w7 ⟨rfl, s7⟩; have k7 : Still w w7 := k6.still s7
  refine hK.out _ _ s7 (fun hHeld => ?_)
  clear hK K hHeld
  try simp only [Act.put, List.setIfInBounds_toArray, List.set_cons_zero, List.set_cons_succ]
  refine held_mono (S' := fun w' => Still w7 w') (fun _ h => s7.still h) ?_
  have hHeld : (fun w' : World => Still w7 w') w7 := Only.refl _ _
  (refine take_p (i := 42) (v := ?_) rfl (by kernel_rfl) (by kernel_rfl) (by kernel_rfl) (fun _ _ _ h => h) (Or.inl ⟨by rfl, ?_⟩) (by assumption) ?_; rotate_left; (focus (intro w0 hSw; go_simp; try with_reducible rfl)); try simp only [Act.put, List.setIfInBounds_toArray, List.set_cons_zero, List.set_cons_succ])
  (refine take_p (i := 43) (v := ?_) rfl (by kernel_rfl) (by kernel_rfl) (by kernel_rfl) (fun _ _ _ h => h) (Or.inl ⟨by rfl, ?_⟩) (by assumption) ?_; rotate_left; (focus (intro w0 hSw; go_simp; try with_reducible rfl)); try simp only [Act.put, List.setIfInBounds_toArray, List.set_cons_zero, List.set_cons_succ])
  refine wpAnyH_done (by kernel_rfl) ?_ _
  go_wp2_with fail
  go_ret
  exact ⟨rfl, k7⟩

theorem puts_long (w : World) (he : ErrT w) (A : Option Addr) (n c : Nat) (x y z : Int) (h : 20000 < n) :
    Calls Tryd.prog 4 #[.slice A n c, .int .u8 x, .int .u16 y, .int .u32 z] w fun e w' => e = .returned (.bool true) ∧ Still w w' := by
  have h20 : (20000 : Int) < (n : Int) := by omega
  go_enter Tryd.func4, Tryd.ntmps4
  go_wp2_with fail
  refine (cur_awake _ he).mono ?_
  rintro e w0 ⟨rfl, ho0⟩
  go_wp2
  go_ret
  exact ⟨rfl, ho0⟩

theorem puts_all (w : World) (A : Option Addr) (n c : Nat) (xs : List Int) (hnc : n ≤ c) (hc : c ≤ maxLen) (hA : A = none → n = 0 ∧ c = 0) (hr : Reads w w.heap.size 1 A n (xs.map (.int .u8))) (hx : ∀ x ∈ xs, (Lit.int .u8 x).wf = true)
    (x : Int) (wx : (Lit.int .u8 x).wf = true) (y : Int) (wy : (Lit.int .u16 y).wf = true) (z : Int) (wz : (Lit.int .u32 z).wf = true) (he : ErrT w) :
    Calls Tryd.prog 4 #[.slice A n c, .int .u8 x, .int .u16 y, .int .u32 z] w fun e w' => e = .returned (.bool true) ∧ Still w w' := by
  by_cases h : 20000 < n
  · exact puts_long w he A n c x y z h
  · obtain ⟨l, hl⟩ := bytes_of xs (fun x h => wf_u8 (hx x h))
    rw [hl] at hr
    have h1 := wf_u8 wx
    have h2 := wf_u16 wy
    have h3 := wf_u32 wz
    obtain ⟨X, rfl⟩ : ∃ X : Nat, x = (X : Int) := ⟨x.toNat, by omega⟩
    obtain ⟨Y, rfl⟩ : ∃ Y : Nat, y = (Y : Int) := ⟨y.toNat, by omega⟩
    obtain ⟨Z, rfl⟩ : ∃ Z : Nat, z = (Z : Int) := ⟨z.toNat, by omega⟩
    exact puts_walk w he A n c l (by omega) hr X Y Z (by omega) (by omega) (by omega)
end Go.Proofs.YtkpogngbajkgmaaDoor
