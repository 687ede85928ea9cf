/-
  Package name: Text.
-/
import Derived.Test.YtjenabcjikdnaaaNameBld
namespace Go.Proofs.Ytjenabcjikdnaaa
open Go.RowKit
set_option linter.unusedVariables false
set_option linter.unusedSimpArgs false

/-- How a byte of a label stands in a text. -/
def esc (c : UInt8) : List UInt8 :=
  if c.toNat = 46 ∨ c.toNat = 92 then [92, c]
  else if c.toNat < 33 ∨ 126 < c.toNat then [92, UInt8.ofNat (48 + c.toNat / 100), UInt8.ofNat (48 + c.toNat / 10 % 10), UInt8.ofNat (48 + c.toNat % 10)]
  else [c]
def labT (x : Lab) : List UInt8 := x.flatMap esc ++ [46]
/-- The text of labels. -/
def textL (L : List Lab) : List UInt8 := if L = [] then [46] else L.flatMap labT
theorem esc_len (c : UInt8) : (esc c).length ≤ 4 := by unfold esc; (repeat' split) <;> simp
theorem flat_len : ∀ x : Lab, (x.flatMap esc).length ≤ 4 * x.length
  | [] => by simp
  | c :: r => by
      rw [List.flatMap_cons, List.length_append, List.length_cons]
      have := esc_len c
      have := flat_len r
      omega
theorem text_len : ∀ L : List Lab, (L.flatMap labT).length ≤ 4 * sz L
  | [] => by simp [sz]
  | x :: r => by
      rw [List.flatMap_cons, List.length_append]
      have := flat_len x
      have := text_len r
      have h : (labT x).length = (x.flatMap esc).length + 1 := by simp [labT]
      simp only [sz]
      omega

set_option maxRecDepth 1000000 in
set_option maxHeartbeats 1600000 in
theorem putEsc_any (b base : Nat) (bs : List UInt8) (c : UInt8) (hl : bs.length ≤ 900000) (w : World) (h : Bld w b base bs) :
    Calls Try.prog 39 #[.pointer (some ⟨b, 0, none⟩), .int .u8 (c.toNat : Int)] w fun e w' => e = .returned (.tuple #[]) ∧ Bld w' b base (bs ++ esc c) ∧ Only (fun k => k = b ∨ base ≤ k) w w' := by
  have hc8 : c.toNat < 256 := UInt8.toNat_lt _
  by_cases h1 : c.toNat = 46 ∨ c.toNat = 92
  · have he : esc c = [92, c] := by unfold esc; rw [if_pos h1]
    rw [he]
    have He := Lib.hid he
    clear he
    go_enter Try.func39, Try.ntmps39
    have o0 : Only (fun k => k = b ∨ base ≤ k) w w := Only.refl _ _
    rcases h1 with h1 | h1
    · have j1 : (c.toNat : Int) = 46 := by omega
      go_wp2_with fail
      refine (put_any b base (bs) (92) _ (by rfl) (by (try simp only [List.length_append, List.length_cons, List.length_nil]); omega) _ h).mono ?_
      rintro e w1 ⟨rfl, h1', o1'⟩
      have o1 := o0.trans o1' (fun _ _ h => h)
      go_wp2_with fail
      refine (put_any b base (bs ++ [92]) (c) _ (by first | rfl | omega) (by (try simp only [List.length_append, List.length_cons, List.length_nil]); omega) _ h1').mono ?_
      rintro e w2 ⟨rfl, h2', o2'⟩
      have o2 := o1.trans o2' (fun _ _ h => h)
      go_wp2_with fail
      go_end0
      exact ⟨rfl, by simpa using h2', o2⟩
    · have j1 : (c.toNat : Int) = 92 := by omega
      go_wp2_with fail
      refine (put_any b base (bs) (92) _ (by rfl) (by (try simp only [List.length_append, List.length_cons, List.length_nil]); omega) _ h).mono ?_
      rintro e w1 ⟨rfl, h1', o1'⟩
      have o1 := o0.trans o1' (fun _ _ h => h)
      go_wp2_with fail
      refine (put_any b base (bs ++ [92]) (c) _ (by first | rfl | omega) (by (try simp only [List.length_append, List.length_cons, List.length_nil]); omega) _ h1').mono ?_
      rintro e w2 ⟨rfl, h2', o2'⟩
      have o2 := o1.trans o2' (fun _ _ h => h)
      go_wp2_with fail
      go_end0
      exact ⟨rfl, by simpa using h2', o2⟩
  · have n1 : ((c.toNat : Int) == 46) = false := by simp; omega
    have n2 : ((c.toNat : Int) == 92) = false := by simp; omega
    have o0 : Only (fun k => k = b ∨ base ≤ k) w w := Only.refl _ _
    by_cases h2 : c.toNat < 33 ∨ 126 < c.toNat
    · have he : esc c = [92, UInt8.ofNat (48 + c.toNat / 100), UInt8.ofNat (48 + c.toNat / 10 % 10), UInt8.ofNat (48 + c.toNat % 10)] := by unfold esc; rw [if_neg h1, if_pos h2]
      have d1 : (((UInt8.ofNat (48 + c.toNat / 100)).toNat : Nat) : Int) = 48 + (c.toNat : Int) / 100 := by simp [UInt8.toNat_ofNat']; omega
      have d2 : (((UInt8.ofNat (48 + c.toNat / 10 % 10)).toNat : Nat) : Int) = 48 + (c.toNat : Int) / 10 % 10 := by simp [UInt8.toNat_ofNat']; omega
      have d3 : (((UInt8.ofNat (48 + c.toNat % 10)).toNat : Nat) : Int) = 48 + (c.toNat : Int) % 10 := by simp [UInt8.toNat_ofNat']; omega
      have D1 := Lib.hid d1
      have D2 := Lib.hid d2
      have D3 := Lib.hid d3
      rw [he]
      clear he h1 d1 d2 d3
      generalize UInt8.ofNat (48 + c.toNat / 100) = z1 at *
      generalize UInt8.ofNat (48 + c.toNat / 10 % 10) = z2 at *
      generalize UInt8.ofNat (48 + c.toNat % 10) = z3 at *
      go_enter Try.func39, Try.ntmps39
      rcases h2 with h2 | h2
      · have j1 : (c.toNat : Int) < 33 := by omega
        skip
        go_wp2_with fail
        refine (put_any b base (bs) (92) _ (by rfl) (by (try simp only [List.length_append, List.length_cons, List.length_nil]); omega) _ h).mono ?_
        rintro e w1 ⟨rfl, h1', o1'⟩
        have o1 := o0.trans o1' (fun _ _ h => h)
        go_wp2_with fail
        refine (put_any b base (bs ++ [92]) (z1) _ D1.out.symm (by (try simp only [List.length_append, List.length_cons, List.length_nil]); omega) _ h1').mono ?_
        rintro e w2 ⟨rfl, h2', o2'⟩
        have o2 := o1.trans o2' (fun _ _ h => h)
        go_wp2_with fail
        refine (put_any b base (bs ++ [92] ++ [z1]) (z2) _ D2.out.symm (by (try simp only [List.length_append, List.length_cons, List.length_nil]); omega) _ h2').mono ?_
        rintro e w3 ⟨rfl, h3', o3'⟩
        have o3 := o2.trans o3' (fun _ _ h => h)
        go_wp2_with fail
        refine (put_any b base (bs ++ [92] ++ [z1] ++ [z2]) (z3) _ D3.out.symm (by (try simp only [List.length_append, List.length_cons, List.length_nil]); omega) _ h3').mono ?_
        rintro e w4 ⟨rfl, h4', o4'⟩
        have o4 := o3.trans o4' (fun _ _ h => h)
        go_wp2_with fail
        go_end0
        exact ⟨rfl, by simpa using h4', o4⟩
      · have j1 : ¬ (c.toNat : Int) < 33 := by omega
        have j2 : (126 : Int) < (c.toNat : Int) := by omega
        go_wp2_with fail
        refine (put_any b base (bs) (92) _ (by rfl) (by (try simp only [List.length_append, List.length_cons, List.length_nil]); omega) _ h).mono ?_
        rintro e w1 ⟨rfl, h1', o1'⟩
        have o1 := o0.trans o1' (fun _ _ h => h)
        go_wp2_with fail
        refine (put_any b base (bs ++ [92]) (z1) _ D1.out.symm (by (try simp only [List.length_append, List.length_cons, List.length_nil]); omega) _ h1').mono ?_
        rintro e w2 ⟨rfl, h2', o2'⟩
        have o2 := o1.trans o2' (fun _ _ h => h)
        go_wp2_with fail
        refine (put_any b base (bs ++ [92] ++ [z1]) (z2) _ D2.out.symm (by (try simp only [List.length_append, List.length_cons, List.length_nil]); omega) _ h2').mono ?_
        rintro e w3 ⟨rfl, h3', o3'⟩
        have o3 := o2.trans o3' (fun _ _ h => h)
        go_wp2_with fail
        refine (put_any b base (bs ++ [92] ++ [z1] ++ [z2]) (z3) _ D3.out.symm (by (try simp only [List.length_append, List.length_cons, List.length_nil]); omega) _ h3').mono ?_
        rintro e w4 ⟨rfl, h4', o4'⟩
        have o4 := o3.trans o4' (fun _ _ h => h)
        go_wp2_with fail
        go_end0
        exact ⟨rfl, by simpa using h4', o4⟩
    · have he : esc c = [c] := by unfold esc; rw [if_neg h1, if_neg h2]
      rw [he]
      have j1 : ¬ (c.toNat : Int) < 33 := by omega
      have j2 : ¬ (126 : Int) < (c.toNat : Int) := by omega
      clear he h1 h2
      go_enter Try.func39, Try.ntmps39
      go_wp2_with fail
      refine (put_any b base (bs) (c) _ (by first | rfl | omega) (by (try simp only [List.length_append, List.length_cons, List.length_nil]); omega) _ h).mono ?_
      rintro e w1 ⟨rfl, h1', o1'⟩
      have o1 := o0.trans o1' (fun _ _ h => h)
      go_wp2_with fail
      go_end0
      exact ⟨rfl, h1', o1⟩
end Go.Proofs.Ytjenabcjikdnaaa
