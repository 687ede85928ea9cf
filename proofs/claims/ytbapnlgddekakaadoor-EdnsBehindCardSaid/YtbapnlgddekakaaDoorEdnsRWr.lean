/-
  Package hustingsref06: Write, Split, Code.
-/
import Derived.Test.YtbapnlgddekakaaDoorEdnsBackM
import Derived.Test.YtbapnlgddekakaaDoorCurPutRef
namespace Go.Proofs.YtbapnlgddekakaaDoor
open Go.RowKit
set_option linter.unusedVariables false
set_option linter.unusedSimpArgs false

set_option maxRecDepth 1000000 in
set_option maxHeartbeats 6400000 in
theorem rwrite_any (w : World) (cl x v f : Nat) (hcl : cl < 65536) (hx : x < 256) (hv : v < 256) (hf : f < 65536) (A : Option Addr) (n c : Nat) (os : List Opt) (hl : os.length = n) (hn : n ≤ 1000000) (hco : codesOk os) (hr : Reads w w.heap.size 2 A n (oRow os)) :
    Calls Tryd.prog 12 #[.agg (eA cl x v f A n c)] w fun e w' =>
      (Hid ((wB os).length ≤ 65535) ∧ e = .returned (.tuple #[.int .u16 cl, .int .u32 ((ttlOf x v f : Nat) : Int), .string (str (wB os)), .int .i64 0]) ∧ Still w w') ∨
      (Hid (65535 < (wB os).length) ∧ e = .returned (.tuple #[.int .u16 0, .int .u32 0, .string ⟨#[]⟩, .int .i64 5]) ∧ Still w w') := by
  unfold eA
  have hsA := Still.new w (.cells #[.int .u16 cl, .int .u8 x, .int .u8 v, .int .u16 f, .slice A n c] 25)
  have hBE := Blk.new w 25 #[.int .u16 cl, .int .u8 x, .int .u8 v, .int .u16 f, .slice A n c]
  have hr := hr.only hsA (Nat.le_refl _) (fun _ _ h => h)
  have Hco := Lib.hid hco
  clear hco
  have yx : IntKind.u32.wrap (x : Int) = (x : Int) := by rw [IntKind.wrap_u32]; omega
  have yv : IntKind.u32.wrap (v : Int) = (v : Int) := by rw [IntKind.wrap_u32]; omega
  have yf : IntKind.u32.wrap (f : Int) = (f : Int) := by rw [IntKind.wrap_u32]; omega
  have ysx : IntKind.u32.wrap ((x : Int) * 16777216) = (x : Int) * 16777216 := by rw [IntKind.wrap_u32]; omega
  have ysv : IntKind.u32.wrap ((v : Int) * 65536) = (v : Int) * 65536 := by rw [IntKind.wrap_u32]; omega
  have ysa : IntKind.u32.wrap ((x : Int) * 16777216 + (v : Int) * 65536) = (x : Int) * 16777216 + (v : Int) * 65536 := by rw [IntKind.wrap_u32]; omega
  have ysb : IntKind.u32.wrap ((x : Int) * 16777216 + (v : Int) * 65536 + (f : Int)) = (x : Int) * 16777216 + (v : Int) * 65536 + (f : Int) := by rw [IntKind.wrap_u32]; omega
  have HY := Lib.hid (And.intro yx (And.intro yv (And.intro yf (And.intro ysx (And.intro ysv (And.intro ysa ysb))))))
  have htt : ((ttlOf x v f : Nat) : Int) = (x : Int) * 16777216 + (v : Int) * 65536 + (f : Int) := by unfold ttlOf; omega
  rw [htt]
  clear yx yv yf ysx ysv ysa ysb htt
  go_enter Tryd.func12, Tryd.ntmps12
  go_wp2_with fail
  obtain ⟨w1, hw1⟩ : ∃ w1, w1 = w.alloc (.cells #[.int .u16 cl, .int .u8 x, .int .u8 v, .int .u16 f, .slice A n c] 25) := ⟨_, rfl⟩
  rw [← hw1] at hsA hBE hr ⊢
  obtain ⟨K, hK⟩ : ∃ K, K = w.heap.size := ⟨_, rfl⟩
  rw [← hK] at hBE hr ⊢
  have hKs := hBE.lt
  clear hw1 hK
  go_loopw [6, 7] (fun ss i wr => ∃ (k : Nat) (L : List UInt8), k ≤ n ∧ i = .int .i64 k ∧ ss = .string (str L) ∧ L.length ≤ 65535 ∧ Hid (L = wB (os.take k)) ∧ Hid (Still w1 wr)) (fun _ i _ => n - (intOf i).toNat)
  case atStart => exact ⟨0, [], Nat.zero_le _, rfl, rfl, by simp, Lib.hid rfl, Lib.hid (Only.refl _ _)⟩
  case round =>
    obtain ⟨k, L, hk, rfl, rfl, hL65, hLe, hst⟩ := hrel
    have hr1 := hr.only hst.out (by omega) (fun _ _ h => h)
    have hBE1 := hBE.only hst.out (fun h => h)
    obtain ⟨b0, b1, b2, b3, b4⟩ := blk5 hBE1
    by_cases hlt : k < n
    · obtain ⟨bl, off, o, rfl, _, hok, x0, x1⟩ := o2_cells hr1 hl hlt
      obtain ⟨oc, od⟩ := o
      simp only at x0 x1
      have hnx := wB_take_succ hok
      have Hnx := Lib.hid hnx
      have hle := wB_take_le os (k + 1)
      have hln : (wB (os.take (k + 1))).length = L.length + (4 + od.size) := by rw [hnx, List.length_append, optB_length, hLe.out]
      have i1 : (k : Int) < (n : Int) := by omega
      have hst6 := hst.out.alloc (.cells #[.int .u16 oc, .string od] 40)
      have hsn := Still.new wr (.cells #[.int .u16 oc, .string od] 40)
      have hZn := Blk.new wr 40 #[.int .u16 oc, .string od]
      have z0 := hZn.cell 0
      have z1 := hZn.cell 1
      obtain ⟨hoc, hod⟩ := Hco.out _ (List.mem_of_getElem? hok)
      simp only at hoc hod
      clear hnx hok hZn
      by_cases hbig : 65535 < od.size
      · have hbig' : (65535 : Int) < (od.size : Int) := by omega
        have hfin : 65535 < (wB os).length := by omega
        have Hfin := Lib.hid hfin
        clear hfin hle hln hbig
        go_wp2_with fail
        refine bodyPost_ret (results_tmp4 rfl _ _ _) rfl ?_
        exact .inr ⟨Hfin, rfl, hsA.still hst6⟩
      · have hbig' : ¬ (65535 : Int) < (od.size : Int) := by omega
        have Hle := Lib.hid (And.intro hle hln)
        clear hle hln
        go_wp2_with fail
        clear x0 x1
        obtain ⟨Z, hZ⟩ : ∃ Z, Z = wr.heap.size := ⟨_, rfl⟩
        obtain ⟨w4, hw4⟩ : ∃ w4, w4 = wr.alloc (.cells #[.int .u16 oc, .string od] 40) := ⟨_, rfl⟩
        rw [← hZ] at z0 z1 ⊢
        rw [← hw4] at z0 z1 hst6 ⊢
        replace z0 : w4.cell? ⟨Z, 0, none⟩ = some (.int .u16 oc) := z0
        replace z1 : w4.cell? ⟨Z, 1, none⟩ = some (.string od) := z1
        clear hZ hw4 hsn b0 b1 b2 b3 b4 hBE1 hr1
        have u1 : IntKind.u64.wrap (oc : Int) = (oc : Int) := by rw [IntKind.wrap_u64]; omega
        have u2 : IntKind.u64.wrap (od.size : Int) = (od.size : Int) := by rw [IntKind.wrap_u64]; omega
        have q1 : str L ++ str (beB 2 oc) = str (L ++ beB 2 oc) := str_append _ _
        have q2 : str (L ++ beB 2 oc) ++ str (beB 2 od.size) = str (L ++ (beB 2 oc ++ beB 2 od.size)) := by rw [str_append, List.append_assoc]
        have q3 : str (L ++ (beB 2 oc ++ beB 2 od.size)) ++ od = str (L ++ optB (oc, od)) := by
          have h := str_append (L ++ (beB 2 oc ++ beB 2 od.size)) od.data.toList
          rw [str_of] at h
          rw [h]
          congr 1
          unfold optB
          simp only [List.append_assoc]
        have e1 : ¬ 9223372036854775807 < (str L).size + (str (beB 2 oc)).size := by rw [str_size, str_size, beB_length]; omega
        have e2 : ¬ 9223372036854775807 < (str (L ++ beB 2 oc)).size + (str (beB 2 od.size)).size := by rw [str_size, str_size, List.length_append, beB_length, beB_length]; omega
        have e3 : ¬ 9223372036854775807 < (str (L ++ (beB 2 oc ++ beB 2 od.size))).size + od.size := by rw [str_size, List.length_append, List.length_append, beB_length, beB_length]; omega
        have kw0 : Still w4 w4.drew := (Only.refl _ _).drew
        obtain ⟨w0, hw0⟩ : ∃ w0, w0 = w4.drew := ⟨_, rfl⟩
        refine wp_region_held_drew (S := fun w' => Still w4.drew w') (by kernel_rfl) (Only.refl _ _) (fun hS => ?_)
        rw [← hw0] at kw0 hS ⊢
        clear hw0
        (refine take_p (i := 0) (v := ?_) rfl (by kernel_rfl) (by kernel_rfl) (by kernel_rfl) (fun _ _ _ h => h) (Or.inl ⟨by rfl, ?_⟩) hS ?_; rotate_left; (focus (intro w0 hSw; go_simp; try with_reducible rfl)); try simp only [Act.put, List.setIfInBounds_toArray, List.set_cons_zero, List.set_cons_succ])
        (refine take_p (i := 1) (v := ?_) rfl (by kernel_rfl) (by kernel_rfl) (by kernel_rfl) (fun _ _ _ h => h) (Or.inl ⟨by rfl, ?_⟩) hS ?_; rotate_left; (focus (intro w0 hSw; go_simp; try with_reducible rfl)); try simp only [Act.put, List.setIfInBounds_toArray, List.set_cons_zero, List.set_cons_succ])
        (refine take_p (i := 2) (v := ?_) rfl (by kernel_rfl) (by kernel_rfl) (by kernel_rfl) (fun _ _ _ h => h) (Or.inl ⟨by rfl, ?_⟩) hS ?_; rotate_left; (focus (intro w0 hSw; have q_ := (kw0.still hSw).cell_some (fun h => h) z0; go_simp; try with_reducible rfl)); try simp only [Act.put, List.setIfInBounds_toArray, List.set_cons_zero, List.set_cons_succ])
        (refine take_p (i := 3) (v := ?_) rfl (by kernel_rfl) (by kernel_rfl) (by kernel_rfl) (fun _ _ _ h => h) (Or.inl ⟨by rfl, ?_⟩) hS ?_; rotate_left; (focus (intro w0 hSw; go_simp; try with_reducible rfl)); try simp only [Act.put, List.setIfInBounds_toArray, List.set_cons_zero, List.set_cons_succ])
        (refine take_p (i := 6) (v := ?_) rfl (by kernel_rfl) (by kernel_rfl) (by kernel_rfl) (fun _ _ _ h => h) (Or.inl ⟨by rfl, ?_⟩) hS ?_; rotate_left; (focus (intro w0 hSw; go_simp; try with_reducible rfl)); try simp only [Act.put, List.setIfInBounds_toArray, List.set_cons_zero, List.set_cons_succ])
        (refine take_p (i := 7) (v := ?_) rfl (by kernel_rfl) (by kernel_rfl) (by kernel_rfl) (fun _ _ _ h => h) (Or.inl ⟨by rfl, ?_⟩) hS ?_; rotate_left; (focus (intro w0 hSw; have q_ := (kw0.still hSw).cell_some (fun h => h) z1; go_simp; try with_reducible rfl)); try simp only [Act.put, List.setIfInBounds_toArray, List.set_cons_zero, List.set_cons_succ])
        (refine take_p (i := 8) (v := ?_) rfl (by kernel_rfl) (by kernel_rfl) (by kernel_rfl) (fun _ _ _ h => h) (Or.inl ⟨by rfl, ?_⟩) hS ?_; rotate_left; (focus (intro w0 hSw; go_simp; try with_reducible rfl)); try simp only [Act.put, List.setIfInBounds_toArray, List.set_cons_zero, List.set_cons_succ])
        (refine take_p (i := 9) (v := ?_) rfl (by kernel_rfl) (by kernel_rfl) (by kernel_rfl) (fun _ _ _ h => h) (Or.inl ⟨by rfl, ?_⟩) hS ?_; rotate_left; (focus (intro w0 hSw; go_simp; try with_reducible rfl)); try simp only [Act.put, List.setIfInBounds_toArray, List.set_cons_zero, List.set_cons_succ])
        (refine take_p (i := 12) (v := ?_) rfl (by kernel_rfl) (by kernel_rfl) (by kernel_rfl) (fun _ _ _ h => h) (Or.inl ⟨by rfl, ?_⟩) hS ?_; rotate_left; (focus (intro w0 hSw; go_simp; try with_reducible rfl)); try simp only [Act.put, List.setIfInBounds_toArray, List.set_cons_zero, List.set_cons_succ])
        (refine take_p (i := 13) (v := ?_) rfl (by kernel_rfl) (by kernel_rfl) (by kernel_rfl) (fun _ _ _ h => h) (Or.inl ⟨by rfl, ?_⟩) hS ?_; rotate_left; (focus (intro w0 hSw; have q_ := (kw0.still hSw).cell_some (fun h => h) z1; go_simp; try with_reducible rfl)); try simp only [Act.put, List.setIfInBounds_toArray, List.set_cons_zero, List.set_cons_succ])
        refine wpAnyH_ready (rs := [4]) (by kernel_rfl) (by simp) ?_
        refine cons_p rfl (fun K hK => ?_) AllReadyH.nil
        go_simp
        refine (put_ref w0 oc 2 (by omega) (by omega)).mono ?_
        rintro e w5 ⟨rfl, sw5⟩
        have kw5 := kw0.still sw5
        refine hK.out _ _ sw5 (fun hHeld => ?_)
        clear hK K hHeld
        try simp only [Act.put, List.setIfInBounds_toArray, List.set_cons_zero, List.set_cons_succ]
        refine held_mono (S' := fun w' => Still w5 w') (fun _ h => sw5.still h) ?_
        have hS : (fun w' : World => Still w5 w') w5 := Only.refl _ _
        (refine take_p (i := 5) (v := ?_) rfl (by kernel_rfl) (by kernel_rfl) (by kernel_rfl) (fun _ _ _ h => h) (Or.inl ⟨by rfl, ?_⟩) hS ?_; rotate_left; (focus (intro w0 hSw; go_simp; try with_reducible rfl)); try simp only [Act.put, List.setIfInBounds_toArray, List.set_cons_zero, List.set_cons_succ])
        refine wpAnyH_ready (rs := [10]) (by kernel_rfl) (by simp) ?_
        refine cons_p rfl (fun K hK => ?_) AllReadyH.nil
        go_simp
        refine (put_ref w5 od.size 2 (by omega) (by omega)).mono ?_
        rintro e w6 ⟨rfl, sw6⟩
        have kw6 := kw5.still sw6
        refine hK.out _ _ sw6 (fun hHeld => ?_)
        clear hK K hHeld
        try simp only [Act.put, List.setIfInBounds_toArray, List.set_cons_zero, List.set_cons_succ]
        refine held_mono (S' := fun w' => Still w6 w') (fun _ h => sw6.still h) ?_
        have hS : (fun w' : World => Still w6 w') w6 := Only.refl _ _
        (refine take_p (i := 11) (v := ?_) rfl (by kernel_rfl) (by kernel_rfl) (by kernel_rfl) (fun _ _ _ h => h) (Or.inl ⟨by rfl, ?_⟩) hS ?_; rotate_left; (focus (intro w0 hSw; go_simp; try with_reducible rfl)); try simp only [Act.put, List.setIfInBounds_toArray, List.set_cons_zero, List.set_cons_succ])
        (refine take_p (i := 14) (v := ?_) rfl (by kernel_rfl) (by kernel_rfl) (by kernel_rfl) (fun _ _ _ h => h) (Or.inl ⟨by rfl, ?_⟩) hS ?_; rotate_left; (focus (intro w0 hSw; go_simp; try with_reducible rfl)); try simp only [Act.put, List.setIfInBounds_toArray, List.set_cons_zero, List.set_cons_succ])
        (refine take_p (i := 15) (v := ?_) rfl (by kernel_rfl) (by kernel_rfl) (by kernel_rfl) (fun _ _ _ h => h) (Or.inl ⟨by rfl, ?_⟩) hS ?_; rotate_left; (focus (intro w0 hSw; go_simp; try with_reducible rfl)); try simp only [Act.put, List.setIfInBounds_toArray, List.set_cons_zero, List.set_cons_succ])
        refine wpAnyH_done (by kernel_rfl) ?_ _
        have hst9 := hst6.still (kw6)
        clear q1 q2 q3 e1 e2 e3 u1 u2 z0 z1 hS sw5 sw6 kw0 kw5 kw6 hst6 hst
        have hsz : (str (L ++ optB (oc, od))).size = L.length + (4 + od.size) := by rw [str_size, List.length_append, optB_length]
        by_cases hov : 65535 < L.length + (4 + od.size)
        · have hov' : (65535 : Int) < (L.length : Int) + (4 + (od.size : Int)) := by omega
          have hov2 : (65535 : Int) < ((str (L ++ optB (oc, od))).size : Int) := by omega
          have hfin : 65535 < (wB os).length := by have := Hle.out; omega
          have Hfin := Lib.hid hfin
          clear hfin hov
          go_wp2_with fail
          refine bodyPost_ret (results_tmp4 rfl _ _ _) rfl ?_
          first | exact .inr ⟨Hfin, rfl, hsA.still hst9⟩ | exact .inr ⟨rfl, hsA.still hst9⟩ | exact ⟨rfl, hsA.still hst9⟩
        · have hov2 : ¬ (65535 : Int) < ((str (L ++ optB (oc, od))).size : Int) := by omega
          have Hst9 := Lib.hid hst9
          have HL : Hid (L ++ optB (oc, od) = wB (os.take (k + 1))) := Lib.hid (by rw [Hnx.out, hLe.out])
          clear hst9
          go_wp2
          go_roundw
          case rel => exact ⟨k + 1, _, by omega, by go_num, rfl, by rw [List.length_append, optB_length]; show L.length + (4 + od.size) ≤ _; omega, HL, Hst9⟩
          case measure => first | go_num | omega | (simp only [intOf]; omega) | (simp [intOf]; omega)
    · obtain rfl : n = k := by omega
      have hnl : ¬ (n : Int) < (n : Int) := by omega
      have hLe' := hLe.out
      rw [List.take_of_length_le (by omega)] at hLe'
      subst hLe'
      have Hfin : Hid ((wB os).length ≤ 65535) := Lib.hid hL65
      have HstF := Lib.hid (hsA.still hst.out)
      obtain ⟨yx, yv, yf, ysx, ysv, ysa, ysb⟩ := HY.out
      clear hLe hst hr1 hBE1
      go_wp2_with fail
      refine wp_region_held_drew (S := fun w' => Still wr w') (by kernel_rfl) ((Only.refl (fun _ => False) wr).drew) (fun hS => ?_)
      (refine take_p (i := 0) (v := ?_) rfl (by kernel_rfl) (by kernel_rfl) (by kernel_rfl) (fun _ _ _ h => h) (Or.inl ⟨by rfl, ?_⟩) hS ?_; rotate_left; (focus (intro w0 hSw; go_simp; try with_reducible rfl)); try simp only [Act.put, List.setIfInBounds_toArray, List.set_cons_zero, List.set_cons_succ])
      (refine take_p (i := 1) (v := ?_) rfl (by kernel_rfl) (by kernel_rfl) (by kernel_rfl) (fun _ _ _ h => h) (Or.inl ⟨by rfl, ?_⟩) hS ?_; rotate_left; (focus (intro w0 hSw; have q_ := hSw.cell_some (fun h => h) b0; go_simp; try with_reducible rfl)); try simp only [Act.put, List.setIfInBounds_toArray, List.set_cons_zero, List.set_cons_succ])
      (refine take_p (i := 2) (v := ?_) rfl (by kernel_rfl) (by kernel_rfl) (by kernel_rfl) (fun _ _ _ h => h) (Or.inl ⟨by rfl, ?_⟩) hS ?_; rotate_left; (focus (intro w0 hSw; go_simp; try with_reducible rfl)); try simp only [Act.put, List.setIfInBounds_toArray, List.set_cons_zero, List.set_cons_succ])
      (refine take_p (i := 3) (v := ?_) rfl (by kernel_rfl) (by kernel_rfl) (by kernel_rfl) (fun _ _ _ h => h) (Or.inl ⟨by rfl, ?_⟩) hS ?_; rotate_left; (focus (intro w0 hSw; have q_ := hSw.cell_some (fun h => h) b1; go_simp; try with_reducible rfl)); try simp only [Act.put, List.setIfInBounds_toArray, List.set_cons_zero, List.set_cons_succ])
      (refine take_p (i := 4) (v := ?_) rfl (by kernel_rfl) (by kernel_rfl) (by kernel_rfl) (fun _ _ _ h => h) (Or.inl ⟨by rfl, ?_⟩) hS ?_; rotate_left; (focus (intro w0 hSw; go_simp; try with_reducible rfl)); try simp only [Act.put, List.setIfInBounds_toArray, List.set_cons_zero, List.set_cons_succ])
      (refine take_p (i := 5) (v := ?_) rfl (by kernel_rfl) (by kernel_rfl) (by kernel_rfl) (fun _ _ _ h => h) (Or.inl ⟨by rfl, ?_⟩) hS ?_; rotate_left; (focus (intro w0 hSw; go_simp; try with_reducible rfl)); try simp only [Act.put, List.setIfInBounds_toArray, List.set_cons_zero, List.set_cons_succ])
      (refine take_p (i := 6) (v := ?_) rfl (by kernel_rfl) (by kernel_rfl) (by kernel_rfl) (fun _ _ _ h => h) (Or.inl ⟨by rfl, ?_⟩) hS ?_; rotate_left; (focus (intro w0 hSw; go_simp; try with_reducible rfl)); try simp only [Act.put, List.setIfInBounds_toArray, List.set_cons_zero, List.set_cons_succ])
      (refine take_p (i := 7) (v := ?_) rfl (by kernel_rfl) (by kernel_rfl) (by kernel_rfl) (fun _ _ _ h => h) (Or.inl ⟨by rfl, ?_⟩) hS ?_; rotate_left; (focus (intro w0 hSw; have q_ := hSw.cell_some (fun h => h) b2; go_simp; try with_reducible rfl)); try simp only [Act.put, List.setIfInBounds_toArray, List.set_cons_zero, List.set_cons_succ])
      (refine take_p (i := 8) (v := ?_) rfl (by kernel_rfl) (by kernel_rfl) (by kernel_rfl) (fun _ _ _ h => h) (Or.inl ⟨by rfl, ?_⟩) hS ?_; rotate_left; (focus (intro w0 hSw; go_simp; try with_reducible rfl)); try simp only [Act.put, List.setIfInBounds_toArray, List.set_cons_zero, List.set_cons_succ])
      (refine take_p (i := 9) (v := ?_) rfl (by kernel_rfl) (by kernel_rfl) (by kernel_rfl) (fun _ _ _ h => h) (Or.inl ⟨by rfl, ?_⟩) hS ?_; rotate_left; (focus (intro w0 hSw; go_simp; try with_reducible rfl)); try simp only [Act.put, List.setIfInBounds_toArray, List.set_cons_zero, List.set_cons_succ])
      (refine take_p (i := 10) (v := ?_) rfl (by kernel_rfl) (by kernel_rfl) (by kernel_rfl) (fun _ _ _ h => h) (Or.inl ⟨by rfl, ?_⟩) hS ?_; rotate_left; (focus (intro w0 hSw; go_simp; try with_reducible rfl)); try simp only [Act.put, List.setIfInBounds_toArray, List.set_cons_zero, List.set_cons_succ])
      (refine take_p (i := 11) (v := ?_) rfl (by kernel_rfl) (by kernel_rfl) (by kernel_rfl) (fun _ _ _ h => h) (Or.inl ⟨by rfl, ?_⟩) hS ?_; rotate_left; (focus (intro w0 hSw; go_simp; try with_reducible rfl)); try simp only [Act.put, List.setIfInBounds_toArray, List.set_cons_zero, List.set_cons_succ])
      (refine take_p (i := 12) (v := ?_) rfl (by kernel_rfl) (by kernel_rfl) (by kernel_rfl) (fun _ _ _ h => h) (Or.inl ⟨by rfl, ?_⟩) hS ?_; rotate_left; (focus (intro w0 hSw; have q_ := hSw.cell_some (fun h => h) b3; go_simp; try with_reducible rfl)); try simp only [Act.put, List.setIfInBounds_toArray, List.set_cons_zero, List.set_cons_succ])
      (refine take_p (i := 13) (v := ?_) rfl (by kernel_rfl) (by kernel_rfl) (by kernel_rfl) (fun _ _ _ h => h) (Or.inl ⟨by rfl, ?_⟩) hS ?_; rotate_left; (focus (intro w0 hSw; go_simp; try with_reducible rfl)); try simp only [Act.put, List.setIfInBounds_toArray, List.set_cons_zero, List.set_cons_succ])
      (refine take_p (i := 14) (v := ?_) rfl (by kernel_rfl) (by kernel_rfl) (by kernel_rfl) (fun _ _ _ h => h) (Or.inl ⟨by rfl, ?_⟩) hS ?_; rotate_left; (focus (intro w0 hSw; go_simp; try with_reducible rfl)); try simp only [Act.put, List.setIfInBounds_toArray, List.set_cons_zero, List.set_cons_succ])
      (refine take_p (i := 15) (v := ?_) rfl (by kernel_rfl) (by kernel_rfl) (by kernel_rfl) (fun _ _ _ h => h) (Or.inl ⟨by rfl, ?_⟩) hS ?_; rotate_left; (focus (intro w0 hSw; go_simp; try with_reducible rfl)); try simp only [Act.put, List.setIfInBounds_toArray, List.set_cons_zero, List.set_cons_succ])
      (refine take_p (i := 16) (v := ?_) rfl (by kernel_rfl) (by kernel_rfl) (by kernel_rfl) (fun _ _ _ h => h) (Or.inl ⟨by rfl, ?_⟩) hS ?_; rotate_left; (focus (intro w0 hSw; go_simp; try with_reducible rfl)); try simp only [Act.put, List.setIfInBounds_toArray, List.set_cons_zero, List.set_cons_succ])
      (refine take_p (i := 17) (v := ?_) rfl (by kernel_rfl) (by kernel_rfl) (by kernel_rfl) (fun _ _ _ h => h) (Or.inl ⟨by rfl, ?_⟩) hS ?_; rotate_left; (focus (intro w0 hSw; go_simp; try with_reducible rfl)); try simp only [Act.put, List.setIfInBounds_toArray, List.set_cons_zero, List.set_cons_succ])
      (refine take_p (i := 18) (v := ?_) rfl (by kernel_rfl) (by kernel_rfl) (by kernel_rfl) (fun _ _ _ h => h) (Or.inl ⟨by rfl, ?_⟩) hS ?_; rotate_left; (focus (intro w0 hSw; go_simp; try with_reducible rfl)); try simp only [Act.put, List.setIfInBounds_toArray, List.set_cons_zero, List.set_cons_succ])
      (refine take_p (i := 19) (v := ?_) rfl (by kernel_rfl) (by kernel_rfl) (by kernel_rfl) (fun _ _ _ h => h) (Or.inl ⟨by rfl, ?_⟩) hS ?_; rotate_left; (focus (intro w0 hSw; go_simp; try with_reducible rfl)); try simp only [Act.put, List.setIfInBounds_toArray, List.set_cons_zero, List.set_cons_succ])
      refine wpAnyH_done (by kernel_rfl) ?_ _
      go_wp2_with fail
      refine bodyPost_ret (results_tmp4 rfl _ _ _) rfl ?_
      exact .inl ⟨Hfin, rfl, HstF.out.drew⟩

set_option maxRecDepth 1000000 in
set_option maxHeartbeats 6400000 in
theorem rcode_any (c e : Nat) (hc : c < 256) (he : e < 256) (w : World) :
    Calls Tryd.prog 18 #[.int .u8 c, .int .u8 e] w fun ev w' => ev = .returned (.int .i64 ((e * 16 + c % 16 : Nat) : Int)) ∧ w = w' := by
  have h1 : (c : Int).tmod 16 = ((c % 16 : Nat) : Int) := by rw [Int.tmod_eq_emod_of_nonneg (by omega)]; omega
  obtain ⟨m, hm⟩ : ∃ m, m = c % 16 := ⟨_, rfl⟩
  rw [← hm] at h1 ⊢
  have hm16 : m < 16 := by omega
  have h2 : (c : Int) % 16 = (m : Int) := by omega
  clear hm
  go_enter Tryd.func18, Tryd.ntmps18
  go_wp2_with fail
  go_ret
  exact ⟨ret_int (by omega), rfl⟩
set_option maxRecDepth 1000000 in
set_option maxHeartbeats 6400000 in
theorem rsplit_in (n : Nat) (hn : n < 4096) (w : World) :
    Calls Tryd.prog 14 #[.int .i64 n] w fun ev w' => ev = .returned (.tuple #[.int .u8 ((n % 16 : Nat) : Int), .int .u8 ((n / 16 : Nat) : Int), .int .i64 0]) ∧ w = w' := by
  obtain ⟨m, hm⟩ : ∃ m, m = n % 16 := ⟨_, rfl⟩
  obtain ⟨d, hd⟩ : ∃ d, d = n / 16 := ⟨_, rfl⟩
  rw [← hm, ← hd]
  have hm16 : m < 16 := by omega
  have hd8 : d < 256 := by omega
  have h1 : (n : Int).tmod 16 = (m : Int) := by rw [Int.tmod_eq_emod_of_nonneg (by omega)]; omega
  have h2 : (n : Int).tdiv 16 = (d : Int) := by rw [Int.tdiv_eq_ediv_of_nonneg (by omega)]; omega
  have h3 : (n : Int) % 16 = (m : Int) := by omega
  have h4 : (n : Int) / 16 = (d : Int) := by omega
  have i0 : ¬ (n : Int) < 0 := by omega
  have i1 : ¬ (4095 : Int) < (n : Int) := by omega
  have v1 : IntKind.u8.wrap (m : Int) = (m : Int) := by rw [IntKind.wrap_u8]; omega
  have v2 : IntKind.u8.wrap (d : Int) = (d : Int) := by rw [IntKind.wrap_u8]; omega
  clear hm hd
  go_enter Tryd.func14, Tryd.ntmps14
  go_wp2_with fail
  refine bodyPost_ret (results_tmp3 rfl _ _ _) rfl ?_
  exact ⟨rfl, rfl⟩
set_option maxRecDepth 1000000 in
set_option maxHeartbeats 6400000 in
theorem rsplit_out (n : Int) (hn : n < 0 ∨ 4095 < n) (w : World) :
    Calls Tryd.prog 14 #[.int .i64 n] w fun ev w' => ev = .returned (.tuple #[.int .u8 0, .int .u8 0, .int .i64 1]) ∧ w = w' := by
  by_cases h : n < 0
  · go_enter Tryd.func14, Tryd.ntmps14
    go_wp2_with fail
    refine bodyPost_ret (results_tmp3 rfl _ _ _) rfl ?_
    exact ⟨rfl, rfl⟩
  · have h4 : 4095 < n := by omega
    go_enter Tryd.func14, Tryd.ntmps14
    go_wp2_with fail
    refine bodyPost_ret (results_tmp3 rfl _ _ _) rfl ?_
    exact ⟨rfl, rfl⟩
end Go.Proofs.YtbapnlgddekakaaDoor
