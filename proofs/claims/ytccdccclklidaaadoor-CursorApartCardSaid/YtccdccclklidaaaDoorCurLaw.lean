/-
  Package cursor: strings of bytes; the examples that every law asks first.
-/
import Derived.Test.YtccdccclklidaaaDoorCurPut
import Derived.Laws.BytesArg
namespace Go.Proofs.YtccdccclklidaaaDoor
open Go.RowKit
set_option linter.unusedVariables false

/-- The string of bytes. -/
def str (l : List UInt8) : ByteArray := ⟨l.toArray⟩
theorem str_size (l : List UInt8) : (str l).size = l.length := by simp [str, ByteArray.size]
theorem str_list (l : List UInt8) : (str l).data.toList = l := by simp [str]
theorem str_of (s : ByteArray) : str s.data.toList = s := by simp [str]
theorem strOfNums_bytes (l : List UInt8) : strOfNums (l.map fun b => (b.toNat : Int)) = str l := by
  unfold strOfNums str
  simp
  apply List.ext_getElem
  · simp
  · intro i h1 h2; simp
theorem conv_own {w : World} {base g n c : Nat} {l : List UInt8} (h : w.ownsRow base 5 1 (.slice (some ⟨g, 0, none⟩) n c) n (bv l)) :
    (convert 34 9 (.slice (some ⟨g, 0, none⟩) n c)).run Tryd.prog w = .ok (.string (str l)) w := by
  have hl : l.length = n := by have := h.1; rw [bv_length] at this; omega
  have := run_convert_bytes_arg (P := Tryd.prog) w 34 5 Tryd.underlying34 Tryd.underlying5 g 0 n c (l.map fun b => (b.toNat : Int)) (by simp [hl]) (fun i hi => by
    have hc := h.cells (g := g) rfl i (.int .u8 (l[i]'(by omega)).toNat) (by unfold bv; rw [List.getElem?_map, List.getElem?_eq_getElem (by omega)]; rfl)
    have hadd : (⟨g, 0, none⟩ : Addr).add i = ⟨g, i, none⟩ := by unfold Addr.add; split <;> simp_all
    rw [hadd] at hc
    rw [Nat.zero_add, hc]
    have : i < l.length := by omega
    simp [List.getD_eq_getElem?_getD, this]) 9 Tryd.underlying9
  rw [strOfNums_bytes] at this
  exact this
theorem Reads.nil_bytes (w : World) (B : Nat) : Reads w B 1 none 0 (bv []) := Reads.none_

set_option maxRecDepth 1000000 in
set_option maxHeartbeats 6400000 in
theorem cur_awake (w : World) (he : ErrT w) : Calls Tryd.prog 15 #[] w fun e w' => e = .returned (.bool true) ∧ Still w w' := by
  go_enter Tryd.func15, Tryd.ntmps15
  go_wp2_with fail
  refine (cur_new _ _).mono ?_
  rintro e w1 ⟨g, rfl, hg, h1, hs1⟩
  have he1 := he.still hs1
  have hm : (⟨#[1, 2, 3, 4, 5]⟩ : ByteArray).size ≤ maxLen := by unfold maxLen; decide
  go_wp2_with fail
  refine (Byte_in h1 (by decide) hm (by decide)).mono ?_
  rintro e w2 ⟨he2, h2, ho2⟩
  rw [show numAt ⟨#[1, 2, 3, 4, 5]⟩ 0 1 = 1 by kernel_rfl] at he2
  subst he2
  have hs2 := hs1.trans ho2 (fun i hi e => by omega)
  have he2 := he1.by_cur h1 ho2
  clear h1 hs1 he1 ho2
  go_wp2_with fail
  refine (Two_in h2 (by decide) hm (by decide)).mono ?_
  rintro e w3 ⟨hee, h3, ho3⟩
  rw [show numAt ⟨#[1, 2, 3, 4, 5]⟩ (0 + 1) 2 = 515 by kernel_rfl] at hee
  subst hee
  have hs3 := hs2.trans ho3 (fun i hi e => by omega)
  have he3 := he2.by_cur h2 ho3
  clear h2 hs2 he2 ho3
  go_wp2_with fail
  refine (Left_any h3 (by decide) hm).mono ?_
  rintro e w4 ⟨rfl, q, rfl⟩
  have h4 := h3.still ((Only.refl (fun _ => False) w3).drewN q)
  have he4 := he3.still ((Only.refl (fun _ => False) w3).drewN q)
  have hs4 := hs3.drewN q
  generalize w3.drewN q = w4 at *
  clear h3 hs3 he3
  go_wp2_with fail
  refine (Four_short h4 he4 (by decide) hm (by decide)).mono ?_
  rintro e w5 ⟨rfl, hst⟩
  have h5 := h4.still hst
  have he5 := he4.still hst
  have hs5 := hs4.still hst
  clear h4 hs4 he4 hst
  go_wp2_with fail
  refine (Take_in h5 (by decide) hm 2 (by decide)).mono ?_
  rintro e w6 ⟨hee, h6, ho6⟩
  rw [show (⟨#[1, 2, 3, 4, 5]⟩ : ByteArray).extract (0 + 1 + 2) (0 + 1 + 2 + 2) = ⟨#[4, 5]⟩ by kernel_rfl] at hee
  subst hee
  have hs6 := hs5.trans ho6 (fun i hi e => by omega)
  have he6 := he5.by_cur h5 ho6
  clear h5 hs5 he5 ho6
  go_wp2_with fail
  refine (Byte_short h6 he6 (by decide) hm (by decide)).mono ?_
  rintro e w7 ⟨rfl, hst⟩
  have h7 := h6.still hst
  have he7 := he6.still hst
  have hs7 := hs6.still hst
  clear h6 hs6 he6 hst
  go_wp2_with fail
  refine (Seek_in h7 5 (by decide)).mono ?_
  rintro e w8 ⟨rfl, h8, ho8⟩
  have hs8 := hs7.trans ho8 (fun i hi e => by omega)
  have he8 := he7.by_cur h7 ho8
  clear h7 hs7 he7 ho8
  go_wp2_with fail
  refine (Seek_out h8 he8 6 (by decide)).mono ?_
  rintro e w9 ⟨rfl, hst⟩
  have hs9 := hs8.still hst
  clear h8 hs8 he8 hst
  go_wp2_with fail
  refine (Put2_any none 0 0 [] _ (Reads.nil_bytes _ _) (by omega) 258 (by omega)).mono ?_
  rintro e w10 ⟨b, rfl, hb, hown, hst⟩
  have hs10 := hs9.still hst
  have hr10 := Reads.of_own hown
  clear hs9 hst hown
  go_wp2_with fail
  refine (Put4_any _ _ _ _ _ hr10 (by omega) 1 (by omega)).mono ?_
  rintro e w11 ⟨b', rfl, hb', hown, hst⟩
  have hs11 := hs10.still hst
  have hcv := conv_own hown
  rw [show str ([] ++ beB 2 258 ++ beB 4 1) = ⟨#[1, 2, 0, 0, 0, 1]⟩ by kernel_rfl] at hcv
  clear hs10 hst hr10
  go_wp2_with fail
  go_ret
  exact ⟨rfl, hs11⟩
end Go.Proofs.YtccdccclklidaaaDoor
