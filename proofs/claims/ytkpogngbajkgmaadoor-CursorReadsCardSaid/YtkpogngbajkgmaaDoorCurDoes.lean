/-
  CursorReads: whatever is asked of a cursor over any text, each answer, and the place, are the document's; for every text of at most 20000 bytes and at most 500 acts.
-/
import Derived.Test.YtkpogngbajkgmaaDoorCurStep
import Derived.Test.YtkpogngbajkgmaaDoorCurRef
import Derived.Deep.RegionHeld3
namespace Go.Proofs.YtkpogngbajkgmaaDoor
open Go.RowKit
set_option linter.unusedVariables false

section
variable {w : World} {g g' : Nat} {s : ByteArray} {a : Nat}
theorem Cur.ne_r (h : Cur w g s a) (h' : RCur w g' s a) : g ≠ g' := Blk.ne_ h h' (by decide)

set_option maxRecDepth 1000000 in
set_option maxHeartbeats 6400000 in
theorem does_any (h : Cur w g s a) (h' : RCur w g' s a) (he : ErrT w) (ha : a ≤ s.size) (hs : s.size ≤ 1000000) (what n : Int) :
    Calls Tryd.prog 24 #[.pointer (some ⟨g, 0, none⟩), .pointer (some ⟨g', 0, none⟩), .agg #[.int .u8 what, .int .i64 n]] w fun e w' =>
      e = .returned (.bool true) ∧ Cur w' g s (stepS s.size a what n).2.2 ∧ RCur w' g' s (stepS s.size a what n).2.2 ∧ Only (fun k => k = g ∨ k = g') w w' := by
  have hm : s.size ≤ maxLen := by unfold maxLen; omega
  have hne := h.ne_r h'
  obtain ⟨β, hβ⟩ : ∃ β, β = w.heap.size := ⟨_, rfl⟩
  obtain ⟨W, hW⟩ : ∃ W, W = w.alloc (Obj.cells #[.int .u8 what, .int .i64 n] 31) := ⟨_, rfl⟩
  have hk : Cur W g s a := by rw [hW]; exact Blk.alloc h _
  have hr : RCur W g' s a := by rw [hW]; exact Blk.alloc h' _
  have heW : ErrT W := by rw [hW]; exact he.still (Still.new _ _)
  have hoW : Only (fun k => k = g ∨ k = g') w W := by rw [hW]; exact (Only.refl _ _).alloc _
  have hbW : Blk W β 31 #[.int .u8 what, .int .i64 n] := by rw [hW]; exact Blk.at_ _ _ _ hβ
  have hcp : W.cell? ⟨β, 1, none⟩ = some (.int .i64 n) := hbW.cell 1
  have hgβ : β ≠ g := by have := Cur.lt h; omega
  have hgβ' : β ≠ g' := by have := RCur.lt h'; omega
  have HW := Lib.hid hW
  have Hβ := Lib.hid hβ
  clear hW hβ h h' he hbW
  by_cases w0 : what = 0
  · subst w0
    by_cases hz : a + 1 ≤ s.size
    · have hsp : (stepS s.size a 0 n).2.2 = a + 1 := by simp [stepS, hz]
      rw [hsp]
      have hlt := beL_len s a 1 hz
      obtain ⟨x, hx⟩ : ∃ x, x = numAt s a 1 := ⟨_, rfl⟩
      rw [← hx] at hlt
      have Hx := Lib.hid hx
      have y1 : IntKind.u64.wrap (x : Int) = (x : Int) := by rw [IntKind.wrap_u64]; omega
      clear hx
      go_enter Tryd.func24, Tryd.ntmps24
      go_wp2_with fail
      rw [← HW.out]
      refine (Byte_in hk ha hm hz).mono ?_
      rintro e w1 ⟨hee, h1, ho1⟩
      rw [← Hx.out] at hee
      subst hee
      have hr1 := hr.only ho1 (fun e => hne e.symm)
      go_wp2_with fail
      refine (rnumber_in hr1 ha (by omega) 1 (by omega) hz).mono ?_
      rintro e w2 ⟨hee, hr2, ho2⟩
      rw [← Hx.out] at hee
      subst hee
      have h2 := h1.only ho2 hne
      go_wp2_with fail
      go_ret
      exact ⟨rfl, h2, hr2, (hoW.trans ho1 (fun _ _ h => .inl h)).trans ho2 (fun _ _ h => .inr h)⟩
    · have hsp : (stepS s.size a 0 n).2.2 = a := by simp [stepS, hz]
      rw [hsp]
      go_enter Tryd.func24, Tryd.ntmps24
      go_wp2_with fail
      rw [← HW.out]
      refine (Byte_short hk heW ha hm (by omega)).mono ?_
      rintro e w1 ⟨rfl, ho1⟩
      go_wp2_with fail
      refine (rnumber_short (hr.still ho1) ha hm 1 (by omega)).mono ?_
      rintro e w2 ⟨rfl, q, rfl⟩
      have ho2 := ho1.drewN q
      generalize w1.drewN q = w2 at *
      go_wp2_with fail
      go_ret
      exact ⟨rfl, hk.still ho2, hr.still ho2, hoW.still ho2⟩
  by_cases w1 : what = 1
  · subst w1
    by_cases hz : a + 2 ≤ s.size
    · have hsp : (stepS s.size a 1 n).2.2 = a + 2 := by simp [stepS, hz]
      rw [hsp]
      have hlt := beL_len s a 2 hz
      obtain ⟨x, hx⟩ : ∃ x, x = numAt s a 2 := ⟨_, rfl⟩
      rw [← hx] at hlt
      have Hx := Lib.hid hx
      have y1 : IntKind.u64.wrap (x : Int) = (x : Int) := by rw [IntKind.wrap_u64]; omega
      clear hx
      go_enter Tryd.func24, Tryd.ntmps24
      go_wp2_with fail
      rw [← HW.out]
      refine (Two_in hk ha hm hz).mono ?_
      rintro e w1 ⟨hee, h1, ho1⟩
      rw [← Hx.out] at hee
      subst hee
      have hr1 := hr.only ho1 (fun e => hne e.symm)
      go_wp2_with fail
      refine (rnumber_in hr1 ha (by omega) 2 (by omega) hz).mono ?_
      rintro e w2 ⟨hee, hr2, ho2⟩
      rw [← Hx.out] at hee
      subst hee
      have h2 := h1.only ho2 hne
      go_wp2_with fail
      go_ret
      exact ⟨rfl, h2, hr2, (hoW.trans ho1 (fun _ _ h => .inl h)).trans ho2 (fun _ _ h => .inr h)⟩
    · have hsp : (stepS s.size a 1 n).2.2 = a := by simp [stepS, hz]
      rw [hsp]
      go_enter Tryd.func24, Tryd.ntmps24
      go_wp2_with fail
      rw [← HW.out]
      refine (Two_short hk heW ha hm (by omega)).mono ?_
      rintro e w1 ⟨rfl, ho1⟩
      go_wp2_with fail
      refine (rnumber_short (hr.still ho1) ha hm 2 (by omega)).mono ?_
      rintro e w2 ⟨rfl, q, rfl⟩
      have ho2 := ho1.drewN q
      generalize w1.drewN q = w2 at *
      go_wp2_with fail
      go_ret
      exact ⟨rfl, hk.still ho2, hr.still ho2, hoW.still ho2⟩
  by_cases w2 : what = 2
  · subst w2
    by_cases hz : a + 4 ≤ s.size
    · have hsp : (stepS s.size a 2 n).2.2 = a + 4 := by simp [stepS, hz]
      rw [hsp]
      have hlt := beL_len s a 4 hz
      obtain ⟨x, hx⟩ : ∃ x, x = numAt s a 4 := ⟨_, rfl⟩
      rw [← hx] at hlt
      have Hx := Lib.hid hx
      have y1 : IntKind.u64.wrap (x : Int) = (x : Int) := by rw [IntKind.wrap_u64]; omega
      clear hx
      go_enter Tryd.func24, Tryd.ntmps24
      go_wp2_with fail
      rw [← HW.out]
      refine (Four_in hk ha hm hz).mono ?_
      rintro e w1 ⟨hee, h1, ho1⟩
      rw [← Hx.out] at hee
      subst hee
      have hr1 := hr.only ho1 (fun e => hne e.symm)
      go_wp2_with fail
      refine (rnumber_in hr1 ha (by omega) 4 (by omega) hz).mono ?_
      rintro e w2 ⟨hee, hr2, ho2⟩
      rw [← Hx.out] at hee
      subst hee
      have h2 := h1.only ho2 hne
      go_wp2_with fail
      go_ret
      exact ⟨rfl, h2, hr2, (hoW.trans ho1 (fun _ _ h => .inl h)).trans ho2 (fun _ _ h => .inr h)⟩
    · have hsp : (stepS s.size a 2 n).2.2 = a := by simp [stepS, hz]
      rw [hsp]
      go_enter Tryd.func24, Tryd.ntmps24
      go_wp2_with fail
      rw [← HW.out]
      refine (Four_short hk heW ha hm (by omega)).mono ?_
      rintro e w1 ⟨rfl, ho1⟩
      go_wp2_with fail
      refine (rnumber_short (hr.still ho1) ha hm 4 (by omega)).mono ?_
      rintro e w2 ⟨rfl, q, rfl⟩
      have ho2 := ho1.drewN q
      generalize w1.drewN q = w2 at *
      go_wp2_with fail
      go_ret
      exact ⟨rfl, hk.still ho2, hr.still ho2, hoW.still ho2⟩
  by_cases w3 : what = 3
  · subst w3
    by_cases hn : n < 0
    · have hsp : (stepS s.size a 3 n).2.2 = a := by simp [stepS, hn]
      rw [hsp]
      go_enter Tryd.func24, Tryd.ntmps24
      go_wp2_with fail
      rw [← HW.out]
      refine (Take_neg hk heW n hn).mono ?_
      rintro e w1 ⟨rfl, ho1⟩
      have hcp1 := ho1.cell_some (p := ⟨β, 1, none⟩) (fun h => h) hcp
      rw [← Hβ.out]
      go_wp2_with fail
      refine (rtake_neg (hr.still ho1) n hn).mono ?_
      rintro e w2 ⟨rfl, rfl⟩
      go_wp2_with fail
      go_ret
      exact ⟨rfl, hk.still ho1, hr.still ho1, hoW.still ho1⟩
    · by_cases hz : (s.size : Int) - a < n
      · have hsp : (stepS s.size a 3 n).2.2 = a := by simp [stepS, hn, hz]
        rw [hsp]
        go_enter Tryd.func24, Tryd.ntmps24
        go_wp2_with fail
        rw [← HW.out]
        refine (Take_short hk heW ha hm n hz).mono ?_
        rintro e w1 ⟨rfl, ho1⟩
        have hcp1 := ho1.cell_some (p := ⟨β, 1, none⟩) (fun h => h) hcp
        rw [← Hβ.out]
        go_wp2_with fail
        refine (rtake_short (hr.still ho1) ha hm n hz).mono ?_
        rintro e w2 ⟨rfl, q, rfl⟩
        have ho2 := ho1.drewN q
        generalize w1.drewN q = w2 at *
        go_wp2_with fail
        go_ret
        exact ⟨rfl, hk.still ho2, hr.still ho2, hoW.still ho2⟩
      · obtain ⟨m, rfl⟩ : ∃ m : Nat, n = (m : Int) := ⟨n.toNat, by omega⟩
        have hsp : (stepS s.size a 3 m).2.2 = a + m := by
          unfold stepS; rw [if_neg (by decide), if_neg (by decide), if_neg (by decide), if_pos rfl, if_neg hn, if_neg hz]; rfl
        rw [hsp]
        obtain ⟨t, ht⟩ : ∃ t, t = s.extract a (a + m) := ⟨_, rfl⟩
        have Ht := Lib.hid ht
        have hz' : a + m ≤ s.size := by omega
        clear ht hsp hz hn
        go_enter Tryd.func24, Tryd.ntmps24
        go_wp2_with fail
        rw [← HW.out]
        refine (Take_in hk ha hm m hz').mono ?_
        rintro e w1 ⟨hee, h1, ho1⟩
        rw [← Ht.out] at hee
        subst hee
        have hr1 := hr.only ho1 (fun e => hne e.symm)
        have hcp1 := ho1.cell_some (p := ⟨β, 1, none⟩) hgβ hcp
        rw [← Hβ.out]
        go_wp2_with fail
        refine (rtake_in hr1 ha hm m hz').mono ?_
        rintro e w2 ⟨hee, hr2, ho2⟩
        rw [← Ht.out] at hee
        subst hee
        have h2 := h1.only ho2 hne
        go_wp2_with fail
        go_ret
        exact ⟨rfl, h2, hr2, (hoW.trans ho1 (fun _ _ h => .inl h)).trans ho2 (fun _ _ h => .inr h)⟩
  have n0 : (what == 0) = false := by simp [w0]
  have n1 : (what == 1) = false := by simp [w1]
  have n2 : (what == 2) = false := by simp [w2]
  have n3 : (what == 3) = false := by simp [w3]
  have hkd : Cur W.drew g s a := hk
  have hrd : RCur W.drew g' s a := hr
  have hed : ErrT W.drew := heW
  by_cases hz : n < 0 ∨ (s.size : Int) < n
  · have hsp : (stepS s.size a what n).2.2 = a := by simp [stepS, w0, w1, w2, w3, hz]
    rw [hsp]
    have Hz := Lib.hid hz
    clear hsp w0 w1 w2 w3 hz
    go_enter Tryd.func24, Tryd.ntmps24
    go_wp2_with fail
    rw [← HW.out, ← Hβ.out]
    go_region_held3 (fun w' => w'.cell? ⟨β, 1, none⟩ = some (.int .i64 n)) (first | go_keep | exact hc4 | exact hcp)
      ((first
      | (go_at_call 35; refine (Seek_out hkd hed n Hz.out).mono ?_; rintro e w4 ⟨rfl, ho4⟩; have hc4 := ho4.cell_some (p := ⟨β, 1, none⟩) (fun h => h) (show W.drew.cell? _ = _ from hcp))
      | (go_at_call 60; refine (rseek_out (hrd.still ho4) n Hz.out).mono ?_; rintro e w5 ⟨rfl, rfl⟩)))
    go_wp2_with fail
    go_ret
    exact ⟨rfl, hkd.still ho4, hrd.still ho4, (hoW.drew).still ho4⟩
  · obtain ⟨m, rfl⟩ : ∃ m : Nat, n = (m : Int) := ⟨n.toNat, by omega⟩
    have hsp : (stepS s.size a what m).2.2 = m := by
      unfold stepS; rw [if_neg w0, if_neg w1, if_neg w2, if_neg w3, if_neg hz]; rfl
    rw [hsp]
    have hz' : m ≤ s.size := by omega
    clear hsp w0 w1 w2 w3 hz
    go_enter Tryd.func24, Tryd.ntmps24
    go_wp2_with fail
    rw [← HW.out, ← Hβ.out]
    go_region_held3 (fun w' => w'.cell? ⟨β, 1, none⟩ = some (.int .i64 m)) (first | go_keep | exact hc5 | exact hc4 | exact hcp)
      ((first
      | (go_at_call 35; refine (Seek_in hkd m hz').mono ?_; rintro e w4 ⟨rfl, h4, ho4⟩; have hc4 := ho4.cell_some (p := ⟨β, 1, none⟩) hgβ (show W.drew.cell? _ = _ from hcp))
      | (go_at_call 60; refine (rseek_in (hrd.only ho4 (fun e => hne e.symm)) m hz').mono ?_; rintro e w5 ⟨rfl, h5, ho5⟩; have hc5 := ho5.cell_some (p := ⟨β, 1, none⟩) hgβ' hc4)))
    go_wp2_with fail
    go_ret
    exact ⟨rfl, h4.only ho5 hne, h5, (hoW.drew.trans ho4 (fun _ _ h => .inl h)).trans ho5 (fun _ _ h => .inr h)⟩
end
end Go.Proofs.YtkpogngbajkgmaaDoor
