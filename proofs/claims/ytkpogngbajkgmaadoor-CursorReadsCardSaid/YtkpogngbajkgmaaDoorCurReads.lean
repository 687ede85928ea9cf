/-
  CursorReads: whatever is asked of a cursor over any text, each answer, and the place, are the document's; for every text of at most 20000 bytes and at most 500 acts.
-/
import Derived.Test.YtkpogngbajkgmaaDoorCurDoes
namespace Go.Proofs.YtkpogngbajkgmaaDoor
open Go.RowKit
set_option linter.unusedVariables false

/-- S may be weakened on the way back: what is shown under the stronger condition stands under the weaker. -/
theorem wpAnyH_mono {P : Program} {ops : Array Oper} {Q : Exit → Act → World → Prop} {md : Region.Mode} {S S' : World → Prop} (hS : ∀ w, S' w → S w) :
    ∀ {fuel : Nat} {listed : Array Bool} {a : Act} {w : World}, wpAnyH P md ops Q S' fuel listed a w → wpAnyH P md ops Q S fuel listed a w
  | 0, _, _, _, h => h
  | fuel + 1, _, _, _, h => ⟨h.1, fun i hi => wpOp_mono (fun a' w' h' => ⟨hS w' h'.1, wpAnyH_mono hS h'.2⟩) (h.2 i hi)⟩

/-- Operation number i of a row that is written out. -/
def nthO : List Oper → Nat → Option Oper
  | [], _ => none
  | o :: _, 0 => some o
  | _ :: l, n + 1 => nthO l n
theorem nthO_eq : ∀ (l : List Oper) (i : Nat), l.toArray[i]? = nthO l i
  | [], _ => by simp [nthO]
  | o :: _, 0 => by simp [nthO]
  | _ :: l, n + 1 => by have := nthO_eq l n; simp [nthO] at this ⊢; exact this
theorem take_l {P : Program} {l : List Oper} {Q : Exit → Act → World → Prop} {md : Region.Mode} {S : World → Prop} {i : Nat} {oi : Oper} {v : Value} {fuel : Nat} {listed : Array Bool} {a : Act} {w : World} (hi : nthO l i = some oi)
    (hs : Region.noSelect l.toArray = true) (hf : Region.free md l.toArray listed i = true) (hr : (Region.ready md l.toArray listed).contains i = true)
    (hQ : ∀ c a w, Q (.panic c) (a.put oi.dst v) w → Q (.panic c) a w) (hy : YieldsIf P l.toArray S oi v a) (hS : S w)
    (h : wpAnyH P md l.toArray Q S fuel (listed.setIfInBounds i true) (a.put oi.dst v) w) : wpAnyH P md l.toArray Q S (fuel + 1) listed a w :=
  wpAnyH_take ((nthO_eq l i).trans hi) hs hf hr hQ hy hS h
theorem cons_l {P : Program} {l : List Oper} {Q : Exit → Act → World → Prop} {md : Region.Mode} {S : World → Prop} {fuel : Nat} {listed : Array Bool} {a : Act} {w : World} {i : Nat} {o : Oper} {rs : List Nat} (ho : nthO l i = some o)
    (h : ∀ K' : Act → World → Prop, Shut (∀ a w, S w → (S w → wpAnyH P md l.toArray Q S fuel (listed.setIfInBounds i true) a w) → K' a w) → if Region.wanted o (yielded l.toArray a.tmps) = true then Oper.wp P o a w K' Q else K' (a.put o.dst undef) w)
    (hs : AllReadyH P md l.toArray Q S fuel listed a w rs) : AllReadyH P md l.toArray Q S fuel listed a w (i :: rs) :=
  AllReadyH.cons ((nthO_eq l i).trans ho) h hs

set_option linter.unusedSimpArgs false in
set_option maxRecDepth 1000000 in
set_option maxHeartbeats 6400000 in
theorem reads_walk (w : World) (he : ErrT w) (s : ByteArray) (hs : s.size ≤ 20000) (C : Option Addr) (m cc : Nat) (l : List (Int × Int)) (hm : m ≤ 500) (hl : l.length = m) (hr : Reads w w.heap.size 2 C m (actCells l)) :
    Calls Tryd.prog 3 #[.string s, .slice C m cc] w fun e w' => e = .returned (.bool true) ∧ Still w w' := by
  have h20 : ¬ (20000 : Int) < (s.size : Int) := by omega
  have h20d : decide ((20000 : Int) < (s.size : Int)) = false := decide_eq_false h20
  have h300 : ¬ (500 : Int) < (m : Int) := by omega
  have hmax : s.size ≤ maxLen := by unfold maxLen; omega
  have Hl := Lib.hid hl
  have Herr := Lib.hid he
  clear hl
  go_enter Tryd.func3, Tryd.ntmps3
  go_wp2_with fail
  refine (cur_new _ _).mono ?_
  rintro e w1 ⟨g, rfl, hg, h1, hst⟩
  have he1 := he.still hst
  clear he
  obtain ⟨g', hg'⟩ : ∃ g', g' = w1.heap.size := ⟨_, rfl⟩
  have h2 : Cur (w1.alloc (Obj.cells #[.string s, .int .i64 0] 28)) g s 0 := h1.still (Still.new _ _)
  have r2 : RCur (w1.alloc (Obj.cells #[.string s, .int .i64 0] 28)) g' s 0 := Blk.at_ _ _ _ hg'
  have he2 := he1.still (Still.new w1 (Obj.cells #[.string s, .int .i64 0] 28))
  have hs2 := hst.alloc (Obj.cells #[.string s, .int .i64 0] 28)
  have hgw' : w.heap.size ≤ g' := by have := hst.size; omega
  have Hg' := Lib.hid hg'
  clear hg' h1 he1 hst
  go_wp2_with fail
  rw [← Hg'.out]
  go_loopw [7] (fun i wr => ∃ k a : Nat, k ≤ m ∧ i = .int .i64 k ∧ a ≤ s.size ∧ Cur wr g s a ∧ RCur wr g' s a ∧ ErrT wr ∧ Hid (Still w wr)) (fun i _ => m - (intOf i).toNat)
  case atStart => exact ⟨0, 0, by omega, rfl, by omega, h2, r2, he2, Lib.hid hs2⟩
  case round =>
    clear h2 r2 he2 hs2
    obtain ⟨k, a, hk, rfl, ha, hc, hrc, heT, hst⟩ := hrel
    by_cases hlt : k < m
    · have hrr := hr.only hst.out (Nat.le_refl _) (fun _ _ h => h)
      obtain ⟨bl, off, what, n, rfl, hbl, hlk, c0, c1⟩ := act_cells hrr Hl.out hlt
      have hbg : ¬ (bl = g ∨ bl = g') := by omega
      have hle := stepS_le s.size a what n ha
      obtain ⟨b, hb⟩ : ∃ b, b = (stepS s.size a what n).2.2 := ⟨_, rfl⟩
      rw [← hb] at hle
      have Hb := Lib.hid hb
      have hcd : Cur wr.drew g s a := hc
      have hrd : RCur wr.drew g' s a := hrc
      have hed : ErrT wr.drew := heT
      have y1 : IntKind.i64.wrap ((s.size : Int) - b) = (s.size : Int) - b := IntWalk.i64_in _ (by omega)
      clear hb hlk hrr
      go_wp2_with fail
      refine wp_region_held_drew (S := fun w' => w'.cell? ⟨bl, off + k * 2, none⟩ = some (.int .u8 what) ∧ w'.cell? ⟨bl, off + k * 2 + 1, none⟩ = some (.int .i64 n)) (by kernel_rfl) ⟨c0, c1⟩ (fun hHeld => ?_)
      (refine take_l (i := 0) (v := ?_) rfl (by kernel_rfl) (by kernel_rfl) (by kernel_rfl) (fun _ _ _ h => h) (Or.inl ⟨by rfl, ?_⟩) (by assumption) ?_; rotate_left; (focus (intro w0 hSw; (try dsimp only at hSw); go_simp; try with_reducible rfl)); try simp only [Act.put, List.setIfInBounds_toArray, List.set_cons_zero, List.set_cons_succ])
      (refine take_l (i := 1) (v := ?_) rfl (by kernel_rfl) (by kernel_rfl) (by kernel_rfl) (fun _ _ _ h => h) (Or.inl ⟨by rfl, ?_⟩) (by assumption) ?_; rotate_left; (focus (intro w0 hSw; (try dsimp only at hSw); go_simp; try with_reducible rfl)); try simp only [Act.put, List.setIfInBounds_toArray, List.set_cons_zero, List.set_cons_succ])
      (refine take_l (i := 2) (v := ?_) rfl (by kernel_rfl) (by kernel_rfl) (by kernel_rfl) (fun _ _ _ h => h) (Or.inl ⟨by rfl, ?_⟩) (by assumption) ?_; rotate_left; (focus (intro w0 hSw; (try dsimp only at hSw); go_simp; try with_reducible rfl)); try simp only [Act.put, List.setIfInBounds_toArray, List.set_cons_zero, List.set_cons_succ])
      (refine take_l (i := 3) (v := ?_) rfl (by kernel_rfl) (by kernel_rfl) (by kernel_rfl) (fun _ _ _ h => h) (Or.inl ⟨by rfl, ?_⟩) (by assumption) ?_; rotate_left; (focus (intro w0 hSw; (try dsimp only at hSw); go_simp; try with_reducible rfl)); try simp only [Act.put, List.setIfInBounds_toArray, List.set_cons_zero, List.set_cons_succ])
      (refine take_l (i := 4) (v := ?_) rfl (by kernel_rfl) (by kernel_rfl) (by kernel_rfl) (fun _ _ _ h => h) (Or.inl ⟨by rfl, ?_⟩) (by assumption) ?_; rotate_left; (focus (intro w0 hSw; (try dsimp only at hSw); go_simp; try with_reducible rfl)); try simp only [Act.put, List.setIfInBounds_toArray, List.set_cons_zero, List.set_cons_succ])
      (refine take_l (i := 5) (v := ?_) rfl (by kernel_rfl) (by kernel_rfl) (by kernel_rfl) (fun _ _ _ h => h) (Or.inl ⟨by rfl, ?_⟩) (by assumption) ?_; rotate_left; (focus (intro w0 hSw; (try dsimp only at hSw); go_simp; try with_reducible rfl)); try simp only [Act.put, List.setIfInBounds_toArray, List.set_cons_zero, List.set_cons_succ])
      refine wpAnyH_ready (rs := [6]) (by kernel_rfl) (by simp) ?_
      refine cons_l rfl (fun K hK => ?_) AllReadyH.nil
      go_simp
      go_at_call 24; refine (does_any hcd hrd hed ha (by omega) what n).mono ?_; rintro e w4 ⟨rfl, h4, r4, ho4⟩; rw [← Hb.out] at h4 r4; have k0 := ho4.cell_some (p := ⟨bl, off + k * 2, none⟩) hbg (show wr.drew.cell? _ = _ from c0); have k1 := ho4.cell_some (p := ⟨bl, off + k * 2 + 1, none⟩) hbg (show wr.drew.cell? _ = _ from c1); have x1 : w4.cell? ⟨g', 1, none⟩ = some (.int .i64 b) := Blk.cell r4 1
      refine hK.out _ _ ⟨k0, k1⟩ (fun hHeld => ?_)
      clear hK K
      try simp only [Act.put, List.setIfInBounds_toArray, List.set_cons_zero, List.set_cons_succ]
      have hX : (fun w' : World => (w'.cell? ⟨bl, off + k * 2, none⟩ = some (.int .u8 what) ∧ w'.cell? ⟨bl, off + k * 2 + 1, none⟩ = some (.int .i64 n)) ∧ w'.cell? ⟨g', 1, none⟩ = some (.int .i64 b)) w4 := ⟨hHeld, x1⟩
      clear hHeld
      refine wpAnyH_mono (S' := fun w' : World => (w'.cell? ⟨bl, off + k * 2, none⟩ = some (.int .u8 what) ∧ w'.cell? ⟨bl, off + k * 2 + 1, none⟩ = some (.int .i64 n)) ∧ w'.cell? ⟨g', 1, none⟩ = some (.int .i64 b)) (fun _ h => h.1) ?_
      (refine take_l (i := 7) (v := ?_) rfl (by kernel_rfl) (by kernel_rfl) (by kernel_rfl) (fun _ _ _ h => h) (Or.inl ⟨by rfl, ?_⟩) (by assumption) ?_; rotate_left; (focus (intro w0 hSw; (try dsimp only at hSw); go_simp; try with_reducible rfl)); try simp only [Act.put, List.setIfInBounds_toArray, List.set_cons_zero, List.set_cons_succ])
      (refine take_l (i := 8) (v := ?_) rfl (by kernel_rfl) (by kernel_rfl) (by kernel_rfl) (fun _ _ _ h => h) (Or.inl ⟨by rfl, ?_⟩) (by assumption) ?_; rotate_left; (focus (intro w0 hSw; (try dsimp only at hSw); go_simp; try with_reducible rfl)); try simp only [Act.put, List.setIfInBounds_toArray, List.set_cons_zero, List.set_cons_succ])
      (refine take_l (i := 9) (v := ?_) rfl (by kernel_rfl) (by kernel_rfl) (by kernel_rfl) (fun _ _ _ h => h) (Or.inl ⟨by rfl, ?_⟩) (by assumption) ?_; rotate_left; (focus (intro w0 hSw; (try dsimp only at hSw); go_simp; try with_reducible rfl)); try simp only [Act.put, List.setIfInBounds_toArray, List.set_cons_zero, List.set_cons_succ])
      (refine take_l (i := 11) (v := ?_) rfl (by kernel_rfl) (by kernel_rfl) (by kernel_rfl) (fun _ _ _ h => h) (Or.inl ⟨by rfl, ?_⟩) (by assumption) ?_; rotate_left; (focus (intro w0 hSw; (try dsimp only at hSw); go_simp; try with_reducible rfl)); try simp only [Act.put, List.setIfInBounds_toArray, List.set_cons_zero, List.set_cons_succ])
      (refine take_l (i := 12) (v := ?_) rfl (by kernel_rfl) (by kernel_rfl) (by kernel_rfl) (fun _ _ _ h => h) (Or.inl ⟨by rfl, ?_⟩) (by assumption) ?_; rotate_left; (focus (intro w0 hSw; (try dsimp only at hSw); go_simp; try with_reducible rfl)); try simp only [Act.put, List.setIfInBounds_toArray, List.set_cons_zero, List.set_cons_succ])
      (refine take_l (i := 13) (v := ?_) rfl (by kernel_rfl) (by kernel_rfl) (by kernel_rfl) (fun _ _ _ h => h) (Or.inl ⟨by rfl, ?_⟩) (by assumption) ?_; rotate_left; (focus (intro w0 hSw; (try dsimp only at hSw); go_simp; try with_reducible rfl)); try simp only [Act.put, List.setIfInBounds_toArray, List.set_cons_zero, List.set_cons_succ])
      (refine take_l (i := 14) (v := ?_) rfl (by kernel_rfl) (by kernel_rfl) (by kernel_rfl) (fun _ _ _ h => h) (Or.inl ⟨by rfl, ?_⟩) (by assumption) ?_; rotate_left; (focus (intro w0 hSw; (try dsimp only at hSw); go_simp; try with_reducible rfl)); try simp only [Act.put, List.setIfInBounds_toArray, List.set_cons_zero, List.set_cons_succ])
      refine wpAnyH_ready (rs := [10]) (by kernel_rfl) (by simp) ?_
      refine cons_l rfl (fun K hK => ?_) AllReadyH.nil
      go_simp
      go_at_call 25; refine (At_any h4).mono ?_; rintro e w5 ⟨rfl, rfl⟩
      refine hK.out _ _ hX (fun hHeld => ?_)
      clear hK K
      try simp only [Act.put, List.setIfInBounds_toArray, List.set_cons_zero, List.set_cons_succ]
      (refine take_l (i := 15) (v := ?_) rfl (by kernel_rfl) (by kernel_rfl) (by kernel_rfl) (fun _ _ _ h => h) (Or.inl ⟨by rfl, ?_⟩) (by assumption) ?_; rotate_left; (focus (intro w0 hSw; (try dsimp only at hSw); go_simp; try with_reducible rfl)); try simp only [Act.put, List.setIfInBounds_toArray, List.set_cons_zero, List.set_cons_succ])
      (refine take_l (i := 16) (v := ?_) rfl (by kernel_rfl) (by kernel_rfl) (by kernel_rfl) (fun _ _ _ h => h) (Or.inl ⟨by rfl, ?_⟩) (by assumption) ?_; rotate_left; (focus (intro w0 hSw; (try dsimp only at hSw); go_simp; try with_reducible rfl)); try simp only [Act.put, List.setIfInBounds_toArray, List.set_cons_zero, List.set_cons_succ])
      (refine take_l (i := 17) (v := ?_) rfl (by kernel_rfl) (by kernel_rfl) (by kernel_rfl) (fun _ _ _ h => h) (Or.inl ⟨by rfl, ?_⟩) (by assumption) ?_; rotate_left; (focus (intro w0 hSw; (try dsimp only at hSw); go_simp; try with_reducible rfl)); try simp only [Act.put, List.setIfInBounds_toArray, List.set_cons_zero, List.set_cons_succ])
      (refine take_l (i := 18) (v := ?_) rfl (by kernel_rfl) (by kernel_rfl) (by kernel_rfl) (fun _ _ _ h => h) (Or.inl ⟨by rfl, ?_⟩) (by assumption) ?_; rotate_left; (focus (intro w0 hSw; (try dsimp only at hSw); go_simp; try with_reducible rfl)); try simp only [Act.put, List.setIfInBounds_toArray, List.set_cons_zero, List.set_cons_succ])
      (refine take_l (i := 20) (v := ?_) rfl (by kernel_rfl) (by kernel_rfl) (by kernel_rfl) (fun _ _ _ h => h) (Or.inl ⟨by rfl, ?_⟩) (by assumption) ?_; rotate_left; (focus (intro w0 hSw; (try dsimp only at hSw); go_simp; try with_reducible rfl)); try simp only [Act.put, List.setIfInBounds_toArray, List.set_cons_zero, List.set_cons_succ])
      (refine take_l (i := 21) (v := ?_) rfl (by kernel_rfl) (by kernel_rfl) (by kernel_rfl) (fun _ _ _ h => h) (Or.inl ⟨by rfl, ?_⟩) (by assumption) ?_; rotate_left; (focus (intro w0 hSw; (try dsimp only at hSw); go_simp; try with_reducible rfl)); try simp only [Act.put, List.setIfInBounds_toArray, List.set_cons_zero, List.set_cons_succ])
      (refine take_l (i := 22) (v := ?_) rfl (by kernel_rfl) (by kernel_rfl) (by kernel_rfl) (fun _ _ _ h => h) (Or.inl ⟨by rfl, ?_⟩) (by assumption) ?_; rotate_left; (focus (intro w0 hSw; (try dsimp only at hSw); go_simp; try with_reducible rfl)); try simp only [Act.put, List.setIfInBounds_toArray, List.set_cons_zero, List.set_cons_succ])
      (refine take_l (i := 23) (v := ?_) rfl (by kernel_rfl) (by kernel_rfl) (by kernel_rfl) (fun _ _ _ h => h) (Or.inl ⟨by rfl, ?_⟩) (by assumption) ?_; rotate_left; (focus (intro w0 hSw; (try dsimp only at hSw); go_simp; try with_reducible rfl)); try simp only [Act.put, List.setIfInBounds_toArray, List.set_cons_zero, List.set_cons_succ])
      (refine take_l (i := 24) (v := ?_) rfl (by kernel_rfl) (by kernel_rfl) (by kernel_rfl) (fun _ _ _ h => h) (Or.inl ⟨by rfl, ?_⟩) (by assumption) ?_; rotate_left; (focus (intro w0 hSw; (try dsimp only at hSw); go_simp; try with_reducible rfl)); try simp only [Act.put, List.setIfInBounds_toArray, List.set_cons_zero, List.set_cons_succ])
      (refine take_l (i := 25) (v := ?_) rfl (by kernel_rfl) (by kernel_rfl) (by kernel_rfl) (fun _ _ _ h => h) (Or.inl ⟨by rfl, ?_⟩) (by assumption) ?_; rotate_left; (focus (intro w0 hSw; (try dsimp only at hSw); go_simp; try with_reducible rfl)); try simp only [Act.put, List.setIfInBounds_toArray, List.set_cons_zero, List.set_cons_succ])
      (refine take_l (i := 26) (v := ?_) rfl (by kernel_rfl) (by kernel_rfl) (by kernel_rfl) (fun _ _ _ h => h) (Or.inl ⟨by rfl, ?_⟩) (by assumption) ?_; rotate_left; (focus (intro w0 hSw; (try dsimp only at hSw); go_simp; try with_reducible rfl)); try simp only [Act.put, List.setIfInBounds_toArray, List.set_cons_zero, List.set_cons_succ])
      refine wpAnyH_ready (rs := [19]) (by kernel_rfl) (by simp) ?_
      refine cons_l rfl (fun K hK => ?_) AllReadyH.nil
      go_simp
      go_at_call 26; refine (Left_any h4 hle hmax).mono ?_; rintro e w6 ⟨rfl, q, rfl⟩
      refine hK.out _ _ hX (fun hHeld => ?_)
      clear hK K
      try simp only [Act.put, List.setIfInBounds_toArray, List.set_cons_zero, List.set_cons_succ]
      (refine take_l (i := 27) (v := ?_) rfl (by kernel_rfl) (by kernel_rfl) (by kernel_rfl) (fun _ _ _ h => h) (Or.inl ⟨by rfl, ?_⟩) (by assumption) ?_; rotate_left; (focus (intro w0 hSw; (try dsimp only at hSw); go_simp; try with_reducible rfl)); try simp only [Act.put, List.setIfInBounds_toArray, List.set_cons_zero, List.set_cons_succ])
      (refine take_l (i := 28) (v := ?_) rfl (by kernel_rfl) (by kernel_rfl) (by kernel_rfl) (fun _ _ _ h => h) (Or.inl ⟨by rfl, ?_⟩) (by assumption) ?_; rotate_left; (focus (intro w0 hSw; (try dsimp only at hSw); go_simp; try with_reducible rfl)); try simp only [Act.put, List.setIfInBounds_toArray, List.set_cons_zero, List.set_cons_succ])
      refine wpAnyH_done (by kernel_rfl) ?_ _
      have h5 := h4.still ((Only.refl (fun _ => False) w4).drewN q)
      have r5 := r4.still ((Only.refl (fun _ => False) w4).drewN q)
      have hs5 : Still w (w4.drewN q) := ((hst.out.drew).trans ho4 (fun i hi e => by omega)).drewN q
      have he5 := Herr.out.still hs5
      generalize w4.drewN q = w5 at *
      clear hc hrc heT hst hcd hrd hed h4 r4 ho4 k0 k1 x1 hX c0 c1 y1
      go_wp2_with fail
      go_roundw
      case rel => exact ⟨k + 1, b, by omega, by go_num, hle, h5, r5, he5, Lib.hid hs5⟩
      case measure => simp [intOf]; omega
    · have hcd : Cur wr.drew g s a := hc
      have hed : ErrT wr.drew := heT
      have x1 : wr.cell? ⟨g', 1, none⟩ = some (.int .i64 a) := Blk.cell hrc 1
      go_wp2_with fail
      go_region_held3 (fun w' => w'.cell? ⟨g', 1, none⟩ = some (.int .i64 a)) (first | go_keep | exact x6 | exact x1)
        ((first
        | (go_at_call 25; refine (At_any hcd).mono ?_; rintro e w5 ⟨rfl, rfl⟩)
        | (go_at_call 22; refine (cur_awake _ hed).mono ?_; rintro e w6 ⟨rfl, hs6⟩; have x6 := hs6.cell_some (p := ⟨g', 1, none⟩) (fun h => h) (show wr.drew.cell? _ = _ from x1))))
      go_wp2_with fail
      go_ret
      exact ⟨rfl, (hst.out.drew).still hs6⟩

theorem reads_long (w : World) (he : ErrT w) (s : ByteArray) (C : Option Addr) (m cc : Nat) (h : 20000 < s.size ∨ 500 < m) :
    Calls Tryd.prog 3 #[.string s, .slice C m cc] w fun e w' => e = .returned (.bool true) ∧ Still w w' := by
  by_cases h1 : 20000 < s.size
  · have h20 : (20000 : Int) < (s.size : Int) := by omega
    go_enter Tryd.func3, Tryd.ntmps3
    go_wp2_with fail
    refine (cur_awake _ he).mono ?_
    rintro e w0 ⟨rfl, ho0⟩
    go_wp2
    go_ret
    exact ⟨rfl, ho0⟩
  · have h20 : ¬ (20000 : Int) < (s.size : Int) := by omega
    have h20d : decide ((20000 : Int) < (s.size : Int)) = false := decide_eq_false h20
    have h3 : (500 : Int) < (m : Int) := by omega
    go_enter Tryd.func3, Tryd.ntmps3
    go_wp2_with fail
    refine (cur_awake _ he).mono ?_
    rintro e w0 ⟨rfl, ho0⟩
    go_wp2
    go_ret
    exact ⟨rfl, ho0⟩

theorem reads_all (w : World) (s : ByteArray) (hs : s.size ≤ maxLen) (C : Option Addr) (m cc : Nat) (l : List (Int × Int)) (hmc : m ≤ cc) (hc : cc ≤ maxLen) (hl : l.length = m) (hr : Reads w w.heap.size 2 C m (actCells l))
    (hw : ∀ p ∈ l, (Lit.int .u8 p.1).wf = true ∧ (Lit.int .i64 p.2).wf = true) (he : ErrT w) :
    Calls Tryd.prog 3 #[.string s, .slice C m cc] w fun e w' => e = .returned (.bool true) ∧ Still w w' := by
  by_cases h : 20000 < s.size ∨ 500 < m
  · exact reads_long w he s C m cc h
  · exact reads_walk w he s (by omega) C m cc l (by omega) hl hr
end Go.Proofs.YtkpogngbajkgmaaDoor
