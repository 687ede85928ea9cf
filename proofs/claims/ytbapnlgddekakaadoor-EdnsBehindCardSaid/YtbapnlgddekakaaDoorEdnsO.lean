/-
  Package edns: readOption.
-/
import Derived.Test.YtbapnlgddekakaaDoorEdnsM
namespace Go.Proofs.YtbapnlgddekakaaDoor
open Go.RowKit
set_option linter.unusedVariables false
set_option linter.unusedSimpArgs false

def optC (o : Option (Opt × Nat)) : Array Value := match o with
  | some (o, _) => #[.int .u16 o.1, .string o.2]
  | none => #[.int .u16 0, .string ⟨#[]⟩]
section
variable {w : World} {g : Nat} {s : ByteArray} {a : Nat}
set_option maxRecDepth 1000000 in
set_option maxHeartbeats 6400000 in
theorem readOption_none (h : Cur w g s a) (he : ErrT w) (ha : a ≤ s.size) (hs : s.size ≤ 1000000000000) (ho : optAt s a = none) :
    Calls Tryd.prog 25 #[.pointer (some ⟨g, 0, none⟩)] w fun e w' => e = .returned (.tuple #[.agg #[.int .u16 0, .string ⟨#[]⟩], .int .i64 4]) ∧ Only (· = g) w w' := by
  have hml : s.size ≤ maxLen := by unfold maxLen; omega
  have hB := Blk.new w 40 #[.int .u16 0, .string ⟨#[]⟩]
  have hs0 := Still.new w (.cells #[.int .u16 0, .string ⟨#[]⟩] 40)
  have hgl := h.lt
  go_enter Tryd.func25, Tryd.ntmps25
  go_wp2_with fail
  obtain ⟨w1, hw1⟩ : ∃ w1, w1 = w.alloc (.cells #[.int .u16 0, .string ⟨#[]⟩] 40) := ⟨_, rfl⟩
  obtain ⟨β, hβ⟩ : ∃ β, β = w.heap.size := ⟨_, rfl⟩
  rw [← hw1] at hB hs0 ⊢
  rw [← hβ] at hB hgl ⊢
  have h1 := h.still hs0
  have he1 := he.still hs0
  have Hβ := Lib.hid hβ
  clear hw1 hβ h he
  by_cases c1 : s.size < a + 2
  · refine (Two_short h1 he1 ha hml c1).mono ?_
    rintro e w2 ⟨rfl, hs2⟩
    have hB2 := hB.only hs2 (fun h => h)
    have hs2 := hs0.still hs2
    go_wp2_with ((refine wpList_store_blk rfl 40 (.tmp 2) (.tmp 15) rfl β rfl #[.int .u16 0, .string ⟨#[]⟩] rfl 40 _ hB2 (by kernel_rfl) rfl (by kernel_rfl) ?_); intro wa hBa hoa)
    (try simp only [Exit.inBlock, Exit.then])
    refine bodyPost_ret (results_cr rfl _ _ β 40 #[.int .u16 0, .string ⟨#[]⟩] _ rfl hBa _ rfl Tryd.underlying40 rfl (by kernel_rfl)) rfl ?_
    exact ⟨rfl, (Only.of_still hs2 _).trans hoa (fun i hi e => by have := Hβ.out; omega)⟩
  · refine (Two_in h1 ha hml (by omega)).mono ?_
    rintro e w2 ⟨rfl, h2, ho2⟩
    have hB2 := hB.only ho2 (by omega)
    have he2 := he1.by_cur h1 ho2
    have hs2 := (Only.of_still hs0 (· = g)).trans ho2 (fun _ _ h => h)
    go_wp2_with fail
    by_cases c2 : s.size < a + 2 + 2
    · refine (Two_short h2 he2 (by omega) hml c2).mono ?_
      rintro e w3 ⟨rfl, hs3⟩
      have hB3 := hB2.only hs3 (fun h => h)
      have hs3 := hs2.still hs3
      go_wp2_with ((refine wpList_store_blk rfl 40 (.tmp 2) (.tmp 24) rfl β rfl #[.int .u16 0, .string ⟨#[]⟩] rfl 40 _ hB3 (by kernel_rfl) rfl (by kernel_rfl) ?_); intro wa hBa hoa)
      (try simp only [Exit.inBlock, Exit.then])
      refine bodyPost_ret (results_cr rfl _ _ β 40 #[.int .u16 0, .string ⟨#[]⟩] _ rfl hBa _ rfl Tryd.underlying40 rfl (by kernel_rfl)) rfl ?_
      exact ⟨rfl, hs3.trans hoa (fun i hi e => by have := Hβ.out; omega)⟩
    · refine (Two_in h2 (by omega) hml (by omega)).mono ?_
      rintro e w3 ⟨rfl, h3, ho3⟩
      have hB3 := hB2.only ho3 (by omega)
      have he3 := he2.by_cur h2 ho3
      have hs3 := hs2.trans ho3 (fun _ _ h => h)
      have hlt := beL_len s (a + 2) 2 (by omega)
      have hbig : (s.size : Int) - ((a + 2 + 2 : Nat) : Int) < (numAt s (a + 2) 2 : Int) := by
        unfold optAt at ho
        rw [if_pos (by omega)] at ho
        split at ho
        · cases ho
        · omega
      clear ho
      generalize numAt s (a + 2) 2 = n at *
      generalize numAt s a 2 = n0 at *
      have hn256 : n < 65536 := hlt
      have y1 : IntKind.i64.wrap (n : Int) = (n : Int) := IntWalk.i64_in _ (by omega)
      clear hlt
      go_wp2_with fail
      refine (Take_short h3 he3 (by omega) hml _ hbig).mono ?_
      rintro e w4 ⟨rfl, hs4⟩
      have hB4 := hB3.only hs4 (fun h => h)
      have hs4 := hs3.still hs4
      go_wp2_with ((refine wpList_store_blk rfl 40 (.tmp 2) (.tmp 35) rfl β rfl #[.int .u16 0, .string ⟨#[]⟩] rfl 40 _ hB4 (by kernel_rfl) rfl (by kernel_rfl) ?_); intro wa hBa hoa)
      (try simp only [Exit.inBlock, Exit.then])
      refine bodyPost_ret (results_cr rfl _ _ β 40 #[.int .u16 0, .string ⟨#[]⟩] _ rfl hBa _ rfl Tryd.underlying40 rfl (by kernel_rfl)) rfl ?_
      exact ⟨rfl, hs4.trans hoa (fun i hi e => by have := Hβ.out; omega)⟩
set_option maxRecDepth 1000000 in
set_option maxHeartbeats 6400000 in
theorem readOption_some (h : Cur w g s a) (he : ErrT w) (ha : a ≤ s.size) (hs : s.size ≤ 1000000000000) {o : Opt} {b : Nat} (ho : optAt s a = some (o, b)) :
    Calls Tryd.prog 25 #[.pointer (some ⟨g, 0, none⟩)] w fun e w' => e = .returned (.tuple #[.agg #[.int .u16 o.1, .string o.2], .int .i64 0]) ∧ Cur w' g s b ∧ Only (· = g) w w' := by
  have hml : s.size ≤ maxLen := by unfold maxLen; omega
  have hB := Blk.new w 40 #[.int .u16 0, .string ⟨#[]⟩]
  have hs0 := Still.new w (.cells #[.int .u16 0, .string ⟨#[]⟩] 40)
  have hgl := h.lt
  obtain ⟨h4, hn, e1, e2⟩ : a + 4 ≤ s.size ∧ a + 4 + numAt s (a + 2) 2 ≤ s.size ∧ (numAt s a 2, s.extract (a + 4) (a + 4 + numAt s (a + 2) 2)) = o ∧ a + 4 + numAt s (a + 2) 2 = b := by
    unfold optAt at ho
    split at ho
    · rename_i h4
      split at ho
      · rename_i hn
        injection ho with ho
        injection ho with e1 e2
        exact ⟨h4, hn, e1, e2⟩
      · cases ho
    · cases ho
  subst e1
  subst e2
  clear ho
  have hlt := beL_len s (a + 2) 2 (by omega)
  obtain ⟨n, hN⟩ : ∃ n, n = numAt s (a + 2) 2 := ⟨_, rfl⟩
  obtain ⟨n0, hN0⟩ : ∃ n0, n0 = numAt s a 2 := ⟨_, rfl⟩
  rw [← hN] at hn hlt ⊢
  rw [← hN0]
  have HN := Lib.hid hN
  have HN0 := Lib.hid hN0
  clear hN hN0
  have hn256 : n < 65536 := hlt
  have y1 : IntKind.i64.wrap (n : Int) = (n : Int) := IntWalk.i64_in _ (by omega)
  clear hlt
  go_enter Tryd.func25, Tryd.ntmps25
  go_wp2_with fail
  obtain ⟨w1, hw1⟩ : ∃ w1, w1 = w.alloc (.cells #[.int .u16 0, .string ⟨#[]⟩] 40) := ⟨_, rfl⟩
  obtain ⟨β, hβ⟩ : ∃ β, β = w.heap.size := ⟨_, rfl⟩
  rw [← hw1] at hB hs0 ⊢
  rw [← hβ] at hB hgl ⊢
  have h1 := h.still hs0
  have he1 := he.still hs0
  have Hβ := Lib.hid hβ
  clear hw1 hβ h he
  refine (Two_in h1 ha hml (by omega)).mono ?_
  rintro e w2 ⟨rfl, h2, ho2⟩
  rw [← HN0.out]
  have hB2 := hB.only ho2 (by omega)
  have he2 := he1.by_cur h1 ho2
  have hs2 := (Only.of_still hs0 (· = g)).trans ho2 (fun _ _ h => h)
  go_wp2_with fail
  refine (Two_in h2 (by omega) hml (by omega)).mono ?_
  rintro e w3 ⟨rfl, h3, ho3⟩
  rw [← HN.out]
  have hB3 := hB2.only ho3 (by omega)
  have he3 := he2.by_cur h2 ho3
  have hs3 := hs2.trans ho3 (fun _ _ h => h)
  go_wp2_with fail
  refine (Take_in h3 (by omega) hml n (by omega)).mono ?_
  rintro e w4 ⟨rfl, h4', ho4⟩
  have hB4 := hB3.only ho4 (by omega)
  have hs4 := hs3.trans ho4 (fun _ _ h => h)
  have e4 : a + 2 + 2 = a + 4 := by omega
  rw [e4] at h4' ⊢
  go_wp2_with ((refine wpList_store_blk rfl 40 (.tmp 2) (.tmp 39) rfl β rfl #[.int .u16 n0, .string (s.extract (a + 4) (a + 4 + n))] rfl 40 _ hB4 (by kernel_rfl) rfl (by kernel_rfl) ?_); intro wa hBa hoa)
  (try simp only [Exit.inBlock, Exit.then])
  refine bodyPost_ret (results_cr rfl _ _ β 40 #[.int .u16 n0, .string (s.extract (a + 4) (a + 4 + n))] _ rfl hBa _ rfl Tryd.underlying40 rfl (by kernel_rfl)) rfl ?_
  exact ⟨rfl, h4'.only hoa (by omega), hs4.trans hoa (fun i hi e => by have := Hβ.out; omega)⟩
end
end Go.Proofs.YtbapnlgddekakaaDoor
