/-
  Package name: the text of a name, read, is the name.
-/
import Derived.Test.YtjenabcjikdnaaaNameLaw
namespace Go.Proofs.Ytjenabcjikdnaaa
open Go.RowKit
set_option linter.unusedVariables false
set_option linter.unusedSimpArgs false

theorem step_plain {ls : List Lab} {lab : Lab} {c : UInt8} (h1 : 33 ≤ c.toNat) (h2 : c.toNat ≤ 126) (h3 : ¬ c.toNat = 46) (h4 : ¬ c.toNat = 92) : step ⟨ls, lab, false, 0, 0⟩ c.toNat = some ⟨ls, lab ++ [c], false, 0, 0⟩ := by
  unfold step
  rw [if_neg (by omega), if_neg (by simp), if_neg h4, if_neg h3, UInt8.ofNat_toNat]
theorem step_slash (ls : List Lab) (lab : Lab) : step ⟨ls, lab, false, 0, 0⟩ 92 = some ⟨ls, lab, true, 0, 0⟩ := rfl
theorem step_dot {ls : List Lab} {lab : Lab} (h : 1 ≤ lab.length) : step ⟨ls, lab, false, 0, 0⟩ 46 = some ⟨ls ++ [lab], [], false, 0, 0⟩ := by
  unfold step
  rw [if_neg (by omega), if_neg (by simp), if_neg (by omega), if_pos rfl, if_neg (by show ¬ lab.length = 0; omega)]
theorem step_raw {ls : List Lab} {lab : Lab} {c : UInt8} (h1 : 33 ≤ c.toNat) (h2 : c.toNat ≤ 126) (h3 : ¬ (48 ≤ c.toNat ∧ c.toNat ≤ 57)) : step ⟨ls, lab, true, 0, 0⟩ c.toNat = some ⟨ls, lab ++ [c], false, 0, 0⟩ := by
  unfold step stepE
  rw [if_neg (by omega), if_pos rfl, if_neg h3, if_neg (by simp), UInt8.ofNat_toNat]
theorem step_dig {ls : List Lab} {lab : Lab} {d code r : Nat} (h : 48 ≤ r ∧ r ≤ 57) (hd : d + 1 < 3) : step ⟨ls, lab, true, d, code⟩ r = some ⟨ls, lab, true, d + 1, 10 * code + (r - 48)⟩ := by
  unfold step stepE
  rw [if_neg (by omega), if_pos rfl, if_pos h, if_pos hd]
theorem step_dig3 {ls : List Lab} {lab : Lab} {code r : Nat} (h : 48 ≤ r ∧ r ≤ 57) (hc : 10 * code + (r - 48) ≤ 255) : step ⟨ls, lab, true, 2, code⟩ r = some ⟨ls, lab ++ [UInt8.ofNat (10 * code + (r - 48))], false, 0, 0⟩ := by
  unfold step stepE
  rw [if_neg (by omega), if_pos rfl, if_pos h, if_neg (by show ¬ (2 + 1 < 3); omega), if_neg (by show ¬ 255 < 10 * code + (r - 48); omega)]
theorem run_cons {s t : St} {c : UInt8} {r : List UInt8} (h : step s c.toNat = some t) : run s (c :: r) = run t r := by
  simp only [run]
  rw [h]
theorem run_esc (ls : List Lab) (lab : Lab) (c : UInt8) (r : List UInt8) : run ⟨ls, lab, false, 0, 0⟩ (esc c ++ r) = run ⟨ls, lab ++ [c], false, 0, 0⟩ r := by
  have hc := UInt8.toNat_lt c
  unfold esc
  by_cases h1 : c.toNat = 46 ∨ c.toNat = 92
  · rw [if_pos h1]
    show run _ (92 :: c :: r) = _
    rw [run_cons (c := 92) (step_slash ls lab), run_cons (step_raw (by omega) (by omega) (by omega))]
  · rw [if_neg h1]
    by_cases h2 : c.toNat < 33 ∨ 126 < c.toNat
    · rw [if_pos h2]
      have e1 : (UInt8.ofNat (48 + c.toNat / 100)).toNat = 48 + c.toNat / 100 := by simp [UInt8.toNat_ofNat']; omega
      have e2 : (UInt8.ofNat (48 + c.toNat / 10 % 10)).toNat = 48 + c.toNat / 10 % 10 := by simp [UInt8.toNat_ofNat']; omega
      have e3 : (UInt8.ofNat (48 + c.toNat % 10)).toNat = 48 + c.toNat % 10 := by simp [UInt8.toNat_ofNat']; omega
      show run _ (92 :: UInt8.ofNat (48 + c.toNat / 100) :: UInt8.ofNat (48 + c.toNat / 10 % 10) :: UInt8.ofNat (48 + c.toNat % 10) :: r) = _
      rw [run_cons (c := 92) (step_slash ls lab), run_cons (by rw [e1]; exact step_dig (by omega) (by omega)), run_cons (by rw [e2]; exact step_dig (by omega) (by omega)), run_cons (by rw [e3]; exact step_dig3 (by omega) (by omega))]
      have : 10 * (10 * (10 * 0 + (48 + c.toNat / 100 - 48)) + (48 + c.toNat / 10 % 10 - 48)) + (48 + c.toNat % 10 - 48) = c.toNat := by omega
      rw [this, UInt8.ofNat_toNat]
    · rw [if_neg h2]
      show run _ (c :: r) = _
      rw [run_cons (step_plain (by omega) (by omega) (by omega) (by omega))]
theorem run_lab (ls : List Lab) : ∀ (x lab : Lab) (r : List UInt8), run ⟨ls, lab, false, 0, 0⟩ (x.flatMap esc ++ r) = run ⟨ls, lab ++ x, false, 0, 0⟩ r
  | [], lab, r => by simp
  | c :: x, lab, r => by
      rw [List.flatMap_cons, List.append_assoc, run_esc, run_lab ls x (lab ++ [c]) r]
      simp
theorem run_labs : ∀ (L ls : List Lab) (r : List UInt8), (∀ x ∈ L, okLab x) → run ⟨ls, [], false, 0, 0⟩ (L.flatMap labT ++ r) = run ⟨ls ++ L, [], false, 0, 0⟩ r
  | [], ls, r, _ => by simp
  | x :: L, ls, r, h => by
      have hx := (h x List.mem_cons_self).1
      rw [List.flatMap_cons]
      unfold labT
      rw [List.append_assoc, List.append_assoc, run_lab]
      show run ⟨ls, [] ++ x, false, 0, 0⟩ (46 :: (List.flatMap labT L ++ r)) = _
      rw [List.nil_append, run_cons (c := 46) (step_dot hx), run_labs L (ls ++ [x]) r (fun y hy => h y (List.mem_cons_of_mem _ hy))]
      simp
theorem text_dot {x : Lab} {r : List Lab} (h : okLab x) : ¬ (x :: r).flatMap labT = [46] := by
  intro e
  have e1 := congrArg List.length e
  rw [List.flatMap_cons, List.length_append] at e1
  cases x with
  | nil => have := h.1; simp at this
  | cons c t =>
      have h2 : 1 ≤ (esc c).length := by unfold esc; (repeat' split) <;> simp
      unfold labT at e1
      rw [List.flatMap_cons] at e1
      simp only [List.length_append, List.length_cons, List.length_nil] at e1
      omega
theorem labs_text {L : List Lab} (h : okL L) : labsOf (textL L) = some L := by
  cases L with
  | nil => rfl
  | cons x r =>
      have ht : textL (x :: r) = (x :: r).flatMap labT := by unfold textL; rw [if_neg (by simp)]
      rw [ht]
      unfold labsOf
      rw [if_neg (text_dot h.head)]
      have := run_labs (x :: r) [] [] h.1
      rw [List.append_nil] at this
      show (match run ⟨[], [], false, 0, 0⟩ ((x :: r).flatMap labT) with | none => none | some s => fin s) = _
      rw [this]
      rfl
theorem parse_text {L : List Lab} (h : okL L) : parseB (textL L) = enc L ∧ parseE (textL L) = 0 := by
  have h1 := parse_some (labs_text h)
  have h2 := join_ok h
  rw [h1.1, h1.2, h2.1, h2.2]
  exact ⟨rfl, rfl⟩
theorem join_zero {L : List Lab} (h : joinE L = 0) : okL L := by
  unfold joinE at h
  by_cases h1 : ∀ x ∈ L, okLab x
  · rw [if_pos h1] at h
    by_cases h2 : sz L + 1 ≤ 255
    · exact ⟨h1, h2⟩
    · rw [if_neg h2] at h; cases h
  · rw [if_neg h1] at h; cases h
/-- What a text is. -/
theorem parse_two (l : List UInt8) : (parseE l = 0 ∧ ∃ L, okL L ∧ parseB l = enc L) ∨ (¬ parseE l = 0 ∧ parseB l = []) := by
  rcases hl : labsOf l with _ | L
  · have h := parse_none hl
    rw [h.1, h.2]
    exact .inr ⟨by decide, rfl⟩
  · have h := parse_some hl
    by_cases hj : joinE L = 0
    · rw [if_pos hj] at h
      refine .inl ⟨h.2, L, join_zero hj, ?_⟩
      rw [h.1, (join_ok (join_zero hj)).2]
    · rw [if_neg hj] at h
      rw [h.2, h.1, join_not hj]
      exact .inr ⟨by decide, rfl⟩
theorem text_last (L : List Lab) : ∃ p, textL L = p ++ [46] := by
  unfold textL
  by_cases h : L = []
  · rw [if_pos h]; exact ⟨[], rfl⟩
  · rw [if_neg h]
    have hs : L.flatMap labT = (L.dropLast).flatMap labT ++ labT (L.getLast h) := by
      conv => lhs; rw [← List.dropLast_concat_getLast h]
      rw [List.flatMap_append]
      simp
    rw [hs]
    unfold labT
    rw [← List.append_assoc]
    exact ⟨_, rfl⟩
theorem text_size {L : List Lab} (h : okL L) : (textL L).length ≤ 1020 := by
  unfold textL
  by_cases e : L = []
  · rw [if_pos e]; simp
  · rw [if_neg e]
    have := text_len L
    have := h.2
    omega
end Go.Proofs.Ytjenabcjikdnaaa
