/-
  Strings of bytes, and bytes turned into strings.
-/
import Derived.Test.YtfhnfjfjmjopeaaDoorCurPut
import Derived.Laws.BytesArg
namespace Go.Proofs.YtfhnfjfjmjopeaaDoor
open Go.RowKit
set_option linter.unusedVariables false

/-- The string of bytes. -/
def str (l : List UInt8) : ByteArray := ⟨l.toArray⟩
theorem str_size (l : List UInt8) : (str l).size = l.length := by simp [str, ByteArray.size]
theorem str_list (l : List UInt8) : (str l).data.toList = l := by simp [str]
theorem str_of (s : ByteArray) : str s.data.toList = s := by simp [str]
theorem strOfNums_bytes (l : List UInt8) : strOfNums (l.map fun b => (b.toNat : Int)) = str l := by
  unfold strOfNums str
  simp
  apply List.ext_getElem
  · simp
  · intro i h1 h2; simp
theorem conv_own {w : World} {base g n c : Nat} {l : List UInt8} (h : w.ownsRow base 5 1 (.slice (some ⟨g, 0, none⟩) n c) n (bv l)) :
    (convert 33 9 (.slice (some ⟨g, 0, none⟩) n c)).run Tryd.prog w = .ok (.string (str l)) w := by
  have hl : l.length = n := by have := h.1; rw [bv_length] at this; omega
  have := run_convert_bytes_arg (P := Tryd.prog) w 33 5 Tryd.underlying33 Tryd.underlying5 g 0 n c (l.map fun b => (b.toNat : Int)) (by simp [hl]) (fun i hi => by
    have hc := h.cells (g := g) rfl i (.int .u8 (l[i]'(by omega)).toNat) (by unfold bv; rw [List.getElem?_map, List.getElem?_eq_getElem (by omega)]; rfl)
    have hadd : (⟨g, 0, none⟩ : Addr).add i = ⟨g, i, none⟩ := by unfold Addr.add; split <;> simp_all
    rw [hadd] at hc
    rw [Nat.zero_add, hc]
    have : i < l.length := by omega
    simp [List.getD_eq_getElem?_getD, this]) 9 Tryd.underlying9
  rw [strOfNums_bytes] at this
  exact this
theorem Reads.nil_bytes (w : World) (B : Nat) : Reads w B 1 none 0 (bv []) := Reads.none_

theorem str_append (l m : List UInt8) : str l ++ str m = str (l ++ m) := by
  apply ByteArray.ext
  simp [str]
theorem conv_one (w : World) (b : UInt8) (x : Int) (hx : x = (b.toNat : Int)) :
    (convert 33 9 (.slice (some ⟨w.heap.size, 0, none⟩) 1 1)).run Tryd.prog (w.alloc (.cells #[.int .u8 x] 5)) = .ok (.string (str [b])) (w.alloc (.cells #[.int .u8 x] 5)) := by
  subst hx
  exact conv_own (own_of_full (base := w.heap.size) (xs := bv [b]) (by
    show (w.heap.push (.cells _ _ _))[w.heap.size]? = _
    simp [bv]) (Nat.le_refl _) (by decide) rfl)

end Go.Proofs.YtfhnfjfjmjopeaaDoor
