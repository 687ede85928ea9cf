/-
  The reference of names: Join, digit, letter.
-/
import Derived.Test.YtjenabcjikdnaaaNameRef5
namespace Go.Proofs.Ytjenabcjikdnaaa
open Go.RowKit
set_option linter.unusedVariables false
set_option linter.unusedSimpArgs false

set_option maxRecDepth 1000000 in
set_option maxHeartbeats 3200000 in
theorem rjoin_any (A : Option Addr) (n c : Nat) (L : List Lab) (hn : L.length = n) (hn9 : n ≤ 1000000) (w : World) (hr : Reads w w.heap.size 1 A n (sv L)) :
    Calls Try.prog 34 #[.slice A n c] w fun e w' => e = .returned (.tuple #[.string (mk (joinB L)), .int .i64 (joinE L)]) ∧ Still w w' := by
  subst hn
  go_enter Try.func34, Try.ntmps34
  go_wp2_with fail
  go_loopw [5] (fun i wr => ∃ k : Nat, k ≤ L.length ∧ i = .int .i64 k ∧ Hid (∀ x ∈ L.take k, okLab x) ∧ wr = w) (fun i _ => L.length - (intOf i).toNat)
  case atStart => exact ⟨0, by omega, rfl, Lib.hid (by intro x hx; simp at hx), rfl⟩
  case round =>
    obtain ⟨k, hk, rfl, hok, rfl⟩ := hrel
    by_cases hlt : k < L.length
    · have i1 : (k : Int) < (L.length : Int) := by omega
      obtain ⟨ad, hA, hab, ca⟩ := read_at hr (k := k) hlt hlt
      subst hA
      have hba : ¬ okLab L[k] → ¬ ∀ x ∈ L, okLab x := fun h h' => h (h' _ (List.getElem_mem hlt))
      have hgo : okLab L[k] → ∀ x ∈ L.take (k + 1), okLab x := take_ok hlt hok.out
      obtain ⟨x, hx⟩ : ∃ x, x = L[k] := ⟨_, rfl⟩
      rw [← hx] at ca hba hgo
      have HB := Lib.hid hba
      have HG := Lib.hid hgo
      have hxs := mk_size x
      clear hx hba hgo
      by_cases e0 : x.length = 0
      · have hb := join_arg (HB.out (by unfold okLab; omega))
        have Hb := Lib.hid hb
        have j1 : (x.length : Int) < 1 := by omega
        clear hb
        go_wp2_with fail
        go_ret2
        exact ⟨by rw [Hb.out.1, Hb.out.2]; rfl, Only.refl _ _⟩
      · have j1 : ¬ (x.length : Int) < 1 := by omega
        by_cases e6 : 63 < x.length
        · have hb := join_arg (HB.out (by unfold okLab; omega))
          have Hb := Lib.hid hb
          have j2 : (63 : Int) < (x.length : Int) := by omega
          clear hb e0
          go_wp2_with fail
          go_ret2
          exact ⟨by rw [Hb.out.1, Hb.out.2]; rfl, Only.refl _ _⟩
        · have j2 : ¬ (63 : Int) < (x.length : Int) := by omega
          have y3 : IntKind.i64.wrap ((k : Int) + 1) = ((k + 1 : Nat) : Int) := by rw [IntWalk.i64_in _ (by omega)]; push_cast; rfl
          have hok' := HG.out (by unfold okLab; omega)
          have HK := Lib.hid hok'
          clear hok' e0
          go_wp2_with fail
          refine ⟨⟨k + 1, by omega, by push_cast; rfl, HK, by first | rfl | trivial⟩, by simp [intOf]; omega⟩
    · have i1 : ¬ (k : Int) < (L.length : Int) := by omega
      have ht : L.take k = L := List.take_of_length_le (by omega)
      have hok1 : ∀ x ∈ L, okLab x := by rw [← ht]; exact hok.out
      have Hok := Lib.hid hok1
      obtain ⟨w0, hw0⟩ : ∃ w0, w0 = wr := ⟨_, rfl⟩
      have HW := Lib.hid hw0
      rw [← hw0] at hr ⊢
      clear hw0 hok1 ht hok
      go_wp2_with fail
      go_loopw [4, 6] (fun i4 i wq => ∃ j : Nat, j ≤ L.length ∧ i4 = .int .i64 ((sz (L.take j) + 1 : Nat) : Int) ∧ i = .int .i64 j ∧ sz (L.take j) + 1 ≤ 255 ∧ wq = w0) (fun _ i _ => L.length - (intOf i).toNat)
      case atStart => exact ⟨0, by omega, rfl, rfl, by simp [sz], rfl⟩
      case round =>
        obtain ⟨j, hj, rfl, rfl, hsz, rfl⟩ := hrel
        by_cases hlt : j < L.length
        · have i1 : (j : Int) < (L.length : Int) := by omega
          obtain ⟨ad, hA, hab, ca⟩ := read_at hr (k := j) hlt hlt
          subst hA
          have hx63 := (Hok.out _ (List.getElem_mem hlt)).2
          have hsn := sz_snoc L j hlt
          have hle := sz_take L (j + 1)
          obtain ⟨x, hx⟩ : ∃ x, x = L[j] := ⟨_, rfl⟩
          rw [← hx] at ca hx63 hsn
          have hxs := mk_size x
          have y1 : IntKind.i64.wrap (((sz (L.take j) + 1 : Nat) : Int) + 1) = ((sz (L.take j) + 1 : Nat) : Int) + 1 := IntWalk.i64_in _ (by omega)
          have y2 : IntKind.i64.wrap (((sz (L.take j) + 1 : Nat) : Int) + 1 + (x.length : Int)) = ((sz (L.take (j + 1)) + 1 : Nat) : Int) := by rw [hsn, IntWalk.i64_in _ (by omega)]; push_cast; omega
          have y3 : IntKind.i64.wrap ((j : Int) + 1) = ((j + 1 : Nat) : Int) := by rw [IntWalk.i64_in _ (by omega)]; push_cast; rfl
          obtain ⟨m, hm⟩ : ∃ m : Nat, m = sz (L.take j) + 1 := ⟨_, rfl⟩
          obtain ⟨m', hm'⟩ : ∃ m : Nat, m = sz (L.take (j + 1)) + 1 := ⟨_, rfl⟩
          rw [← hm] at y1 y2 ⊢
          rw [← hm'] at y2
          have HM := Lib.hid hm'
          clear hx
          by_cases hbig : 255 < m'
          · have Hb := Lib.hid (join_long Hok.out (by omega))
            have j1 : (255 : Int) < (m' : Int) := by omega
            clear hm hm' hsn
            go_wp2_with fail
            go_ret2
            exact ⟨by rw [Hb.out.1, Hb.out.2]; rfl, by rw [← HW.out]; exact Only.refl _ _⟩
          · have j1 : ¬ (255 : Int) < (m' : Int) := by omega
            clear hm hm' hsn
            go_wp2_with fail
            exact ⟨⟨j + 1, by omega, by rw [HM.out], by push_cast; rfl, by have := HM.out; omega, by first | rfl | trivial⟩, by simp [intOf]; omega⟩
        · have i1 : ¬ (j : Int) < (L.length : Int) := by omega
          have ht : L.take j = L := List.take_of_length_le (by omega)
          rw [ht] at hsz
          have Hb := Lib.hid (join_ok ⟨Hok.out, hsz⟩)
          obtain ⟨w3, hw3⟩ : ∃ w3, w3 = wr := ⟨_, rfl⟩
          clear ht
          go_wp2_with fail
          refine (bytes_any A L.length c L _ hr (by omega) (by omega)).mono ?_
          rintro e w4 ⟨rfl, h4⟩
          have hfin := h4
          go_wp2_with fail
          go_ret2
          exact ⟨by rw [Hb.out.1, Hb.out.2]; rfl, by rw [← HW.out]; exact hfin⟩

def digB (c : UInt8) : Bool := decide (48 ≤ c.toNat) && decide (c.toNat ≤ 57)
theorem digB_iff (c : UInt8) : digB c = true ↔ 48 ≤ c.toNat ∧ c.toNat ≤ 57 := by unfold digB; rw [Bool.and_eq_true, decide_eq_true_eq, decide_eq_true_eq]
set_option maxRecDepth 1000000 in
theorem digit_any (c : UInt8) (w : World) : Calls Try.prog 54 #[.int .u8 (c.toNat : Int)] w fun e w' => e = .returned (.bool (digB c)) ∧ w = w' := by
  have hc8 : c.toNat < 256 := UInt8.toNat_lt _
  go_enter Try.func54, Try.ntmps54
  by_cases h1 : 48 ≤ c.toNat
  · have i1 : (48 : Int) ≤ (c.toNat : Int) := by omega
    by_cases h2 : c.toNat ≤ 57
    · have i2 : (c.toNat : Int) ≤ 57 := by omega
      have H : Hid (true = digB c) := Lib.hid ((digB_iff c).2 ⟨h1, h2⟩).symm
      clear h1 h2
      go_wp2_with fail
      go_ret
      exact ⟨ret_bool H.out, rfl⟩
    · have i2 : ¬ (c.toNat : Int) ≤ 57 := by omega
      have H : Hid (false = digB c) := Lib.hid (by unfold digB; rw [decide_eq_false h2]; simp)
      clear h1 h2
      go_wp2_with fail
      go_ret
      exact ⟨ret_bool H.out, rfl⟩
  · have i1 : ¬ (48 : Int) ≤ (c.toNat : Int) := by omega
    have H : Hid (false = digB c) := Lib.hid (by unfold digB; rw [decide_eq_false h1]; simp)
    clear h1
    go_wp2_with fail
    go_ret
    exact ⟨ret_bool H.out, rfl⟩

def val3 (a b d : UInt8) : Nat := 100 * (a.toNat - 48) + 10 * (b.toNat - 48) + (d.toNat - 48)
/-- What follows a backslash and a first sign of a number. -/
def letR (a : UInt8) : List UInt8 → Option (UInt8 × Nat)
  | b :: d :: _ => if (digB a = true ∧ digB b = true ∧ digB d = true) ∧ val3 a b d ≤ 255 then some (UInt8.ofNat (val3 a b d), 4) else none
  | _ => none
/-- What follows a backslash. -/
def letQ : List UInt8 → Option (UInt8 × Nat)
  | [] => none
  | a :: t1 => if digB a = false ∧ 33 ≤ a.toNat ∧ a.toNat ≤ 126 then some (a, 2) else letR a t1
/-- One byte of a label at the beginning of a text, and how many bytes say it. -/
def letP : List UInt8 → Option (UInt8 × Nat)
  | [] => none
  | c :: t => if c.toNat < 33 ∨ 126 < c.toNat then none else if ¬ c.toNat = 92 then some (c, 1) else letQ t
theorem letP_cons (c : UInt8) (t : List UInt8) : letP (c :: t) = if c.toNat < 33 ∨ 126 < c.toNat then none else if ¬ c.toNat = 92 then some (c, 1) else letQ t := rfl
theorem letQ_cons (a : UInt8) (t : List UInt8) : letQ (a :: t) = if digB a = false ∧ 33 ≤ a.toNat ∧ a.toNat ≤ 126 then some (a, 2) else letR a t := rfl
theorem letR_cons (a b d : UInt8) (t : List UInt8) : letR a (b :: d :: t) = if (digB a = true ∧ digB b = true ∧ digB d = true) ∧ val3 a b d ≤ 255 then some (UInt8.ofNat (val3 a b d), 4) else none := rfl
theorem none_some {α : Type} {x : α} {p : Prop} (h : (none : Option α) = some x) : p := by cases h
/-- What the labels are that a text goes on to say. -/
def pf (s : St) (l : List UInt8) : Option (List Lab) := match run s l with
  | none => none
  | some t => fin t
theorem pf_cons (s : St) (c : UInt8) (r : List UInt8) : pf s (c :: r) = match step s c.toNat with
    | none => none
    | some t => pf t r := by
  unfold pf
  simp only [run]
  cases step s c.toNat <;> rfl
theorem pf_some {s t : St} {c : UInt8} {r : List UInt8} (h : step s c.toNat = some t) : pf s (c :: r) = pf t r := by rw [pf_cons, h]
theorem pf_none {s : St} {c : UInt8} {r : List UInt8} (h : step s c.toNat = none) : pf s (c :: r) = none := by rw [pf_cons, h]
theorem fin_sl (ls : List Lab) (lab : Lab) (d code : Nat) : pf ⟨ls, lab, true, d, code⟩ [] = none := rfl
theorem step_out {ls : List Lab} {lab : Lab} {sl : Bool} {d code r : Nat} (h : r < 33 ∨ 126 < r) : step ⟨ls, lab, sl, d, code⟩ r = none := by unfold step; rw [if_pos h]
theorem step_nodig {ls : List Lab} {lab : Lab} {d code r : Nat} (hd : 0 < d) (h : ¬ (48 ≤ r ∧ r ≤ 57)) : step ⟨ls, lab, true, d, code⟩ r = none := by
  unfold step stepE
  by_cases h1 : r < 33 ∨ 126 < r
  · rw [if_pos h1]
  · rw [if_neg h1, if_pos rfl, if_neg h, if_pos hd]
theorem step_big {ls : List Lab} {lab : Lab} {code r : Nat} (h : 48 ≤ r ∧ r ≤ 57) (hc : 255 < 10 * code + (r - 48)) : step ⟨ls, lab, true, 2, code⟩ r = none := by
  unfold step stepE
  rw [if_neg (by omega), if_pos rfl, if_pos h, if_neg (by show ¬ (2 + 1 < 3); omega), if_pos hc]
theorem letP_some {r : List UInt8} {c : UInt8} {n : Nat} (h : letP r = some (c, n)) (h46 : ∀ b t, r = b :: t → ¬ b.toNat = 46) (ls : List Lab) (lab : Lab) : pf ⟨ls, lab, false, 0, 0⟩ r = pf ⟨ls, lab ++ [c], false, 0, 0⟩ (r.drop n) ∧ 1 ≤ n ∧ n ≤ r.length ∧ n ≤ 4 := by
  cases r with
  | nil => exact none_some h
  | cons x t =>
      have hx := h46 x t rfl
      rw [letP_cons] at h
      by_cases h1 : x.toNat < 33 ∨ 126 < x.toNat
      · rw [if_pos h1] at h; cases h
      · rw [if_neg h1] at h
        by_cases h2 : x.toNat = 92
        · rw [if_neg (fun k => k h2)] at h
          have hx92 : x = 92 := UInt8.toNat_inj.1 (by rw [h2]; rfl)
          subst hx92
          rw [pf_some (c := 92) (step_slash ls lab)]
          cases t with
          | nil => exact none_some h
          | cons a t1 =>
              rw [letQ_cons] at h
              by_cases h3 : digB a = false ∧ 33 ≤ a.toNat ∧ a.toNat ≤ 126
              · rw [if_pos h3] at h
                cases h
                rw [pf_some (step_raw h3.2.1 h3.2.2 (fun k => by rw [(digB_iff c).2 k] at h3; exact absurd h3.1 (by simp)))]
                exact ⟨rfl, by omega, by simp, by omega⟩
              · rw [if_neg h3] at h
                cases t1 with
                | nil => exact none_some h
                | cons b t2 =>
                    cases t2 with
                    | nil => exact none_some h
                    | cons d t3 =>
                        rw [letR_cons] at h
                        by_cases h4 : (digB a = true ∧ digB b = true ∧ digB d = true) ∧ val3 a b d ≤ 255
                        · rw [if_pos h4] at h
                          cases h
                          obtain ⟨⟨ha, hb, hd⟩, hv⟩ := h4
                          have ha := (digB_iff a).1 ha
                          have hb := (digB_iff b).1 hb
                          have hd := (digB_iff d).1 hd
                          have hv' : 10 * (10 * (10 * 0 + (a.toNat - 48)) + (b.toNat - 48)) + (d.toNat - 48) = val3 a b d := by unfold val3; omega
                          rw [pf_some (step_dig ha (by omega)), pf_some (step_dig hb (by omega)), pf_some (step_dig3 hd (by rw [hv']; exact hv)), hv']
                          exact ⟨rfl, by omega, by simp, by omega⟩
                        · rw [if_neg h4] at h; cases h
        · rw [if_pos h2] at h
          cases h
          rw [pf_some (step_plain (by omega) (by omega) hx h2)]
          exact ⟨rfl, by omega, by simp, by omega⟩
theorem letP_none {r : List UInt8} (h : letP r = none) (hne : r ≠ []) (ls : List Lab) (lab : Lab) : pf ⟨ls, lab, false, 0, 0⟩ r = none := by
  cases r with
  | nil => exact absurd rfl hne
  | cons x t =>
      rw [letP_cons] at h
      by_cases h1 : x.toNat < 33 ∨ 126 < x.toNat
      · exact pf_none (step_out h1)
      · rw [if_neg h1] at h
        by_cases h2 : x.toNat = 92
        · rw [if_neg (fun k => k h2)] at h
          have hx92 : x = 92 := UInt8.toNat_inj.1 (by rw [h2]; rfl)
          subst hx92
          rw [pf_some (c := 92) (step_slash ls lab)]
          cases t with
          | nil => rfl
          | cons a t1 =>
              rw [letQ_cons] at h
              by_cases h3 : digB a = false ∧ 33 ≤ a.toNat ∧ a.toNat ≤ 126
              · rw [if_pos h3] at h; cases h
              · rw [if_neg h3] at h
                by_cases h4 : 48 ≤ a.toNat ∧ a.toNat ≤ 57
                · rw [pf_some (step_dig h4 (by omega))]
                  cases t1 with
                  | nil => rfl
                  | cons b t2 =>
                      by_cases h5 : 48 ≤ b.toNat ∧ b.toNat ≤ 57
                      · rw [pf_some (step_dig h5 (by omega))]
                        cases t2 with
                        | nil => rfl
                        | cons d t3 =>
                            rw [letR_cons] at h
                            by_cases h6 : 48 ≤ d.toNat ∧ d.toNat ≤ 57
                            · have hv' : 10 * (10 * (10 * 0 + (a.toNat - 48)) + (b.toNat - 48)) + (d.toNat - 48) = val3 a b d := by unfold val3; omega
                              refine pf_none (step_big h6 ?_)
                              rw [hv']
                              by_cases h7 : val3 a b d ≤ 255
                              · rw [if_pos ⟨⟨(digB_iff a).2 h4, (digB_iff b).2 h5, (digB_iff d).2 h6⟩, h7⟩] at h; cases h
                              · omega
                            · exact pf_none (step_nodig (by omega) h6)
                      · exact pf_none (step_nodig (by omega) h5)
                · have hf : digB a = false := by
                    cases hd : digB a with
                    | false => rfl
                    | true => exact absurd ((digB_iff a).1 hd) h4
                  refine pf_none (step_out ?_)
                  rcases Nat.lt_or_ge a.toNat 33 with k | k
                  · exact .inl k
                  · rcases Nat.lt_or_ge 126 a.toNat with k' | k'
                    · exact .inr k'
                    · exact absurd ⟨hf, k, k'⟩ h3
        · rw [if_pos h2] at h; cases h
end Go.Proofs.Ytjenabcjikdnaaa
