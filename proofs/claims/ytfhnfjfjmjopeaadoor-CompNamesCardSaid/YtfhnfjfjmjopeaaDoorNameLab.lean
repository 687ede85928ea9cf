/-
  Package name: Parent, Labels.
-/
import Derived.Test.YtfhnfjfjmjopeaaDoorNameFold
namespace Go.Proofs.YtfhnfjfjmjopeaaDoor
open Go.RowKit
set_option linter.unusedVariables false
set_option linter.unusedSimpArgs false

/-- What is known of the bytes of a name that is not the root. -/
theorem enc_parts (x : Lab) (r : List Lab) (h : okL (x :: r)) : ∃ h0 : 0 < (mk (enc (x :: r))).size, ((mk (enc (x :: r)))[0]).toNat = x.length ∧ 1 + x.length < (mk (enc (x :: r))).size ∧ (mk (enc (x :: r))).size ≤ 255 ∧
    (mk (enc (x :: r))).extract 1 (1 + x.length) = mk x ∧ (mk (enc (x :: r))).extract (1 + x.length) (mk (enc (x :: r))).size = mk (enc r) ∧ mk (enc (x :: r)) ≠ mk [0] := by
  have hx := h.head
  have hsz : (mk (enc (x :: r))).size = sz (x :: r) + 1 := by rw [mk_size, enc_len]
  have h2 := h.2
  have hs2 : sz (x :: r) = 1 + x.length + sz r := rfl
  refine ⟨by omega, ?_, by omega, by omega, ?_, ?_, ?_⟩
  · rw [mk_get]; exact toNat_len hx.2
  · apply ByteArray.ext
    rw [ByteArray.data_extract]
    apply Array.toList_inj.1
    rw [Array.toList_extract]
    show (List.extract (enc (x :: r)) 1 (1 + x.length)) = x
    simp [enc, List.extract]
  · rw [mk_size]
    apply ByteArray.ext
    rw [ByteArray.data_extract]
    apply Array.toList_inj.1
    rw [Array.toList_extract]
    show (List.extract (enc (x :: r)) (1 + x.length) (enc (x :: r)).length) = enc r
    simp [enc, List.extract, Nat.add_comm 1]
  · intro e
    have e1 := congrArg ByteArray.size e
    rw [hsz, mk_size] at e1
    have : [(0 : UInt8)].length = 1 := rfl
    have := hx.1
    omega
theorem not_list {S : ByteArray} {l : List UInt8} (h : S ≠ mk l) : (S.toList == l) = false := by
  cases hb : (S.toList == l) with
  | false => rfl
  | true =>
      refine absurd ?_ h
      have e := eq_of_beq hb
      rw [ByteArray.toList_eq] at e
      apply ByteArray.ext
      apply Array.toList_inj.1
      rw [e]
      rfl
theorem may_root : mayN (mk [0]).data.toList = true := may_enc (L := []) okL.nil

/-- How long a text is. -/
def strLen : Value → Nat
  | .string s => s.size
  | _ => 0
theorem eq_list (l : List UInt8) : ((mk l).toList == l) = true := by
  rw [ByteArray.toList_eq, mk_list]; exact beq_self_eq_true _

end Go.Proofs.YtfhnfjfjmjopeaaDoor
