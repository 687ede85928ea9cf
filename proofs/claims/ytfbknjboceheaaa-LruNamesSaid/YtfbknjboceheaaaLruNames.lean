/-
  LruNames: the examples; lists of no place, and of all that may be; nil, and what nobody made.
-/
import Derived.Test.YtfbknjboceheaaaLruMore
namespace Go.Proofs.Ytfbknjboceheaaa
open Go.RowKit
set_option linter.unusedVariables false

def desc (i : Nat) : List Nat := (List.range i).map (fun t => 256 - t)
theorem desc_length (i : Nat) : (desc i).length = i := by simp [desc]
theorem desc_succ (i : Nat) : desc (i + 1) = desc i ++ [256 - i] := by simp [desc, List.range_succ]
theorem desc_not {i : Nat} (hi : i < 256) : 256 - i ∉ desc i := by
  unfold desc
  simp only [List.mem_map, List.mem_range]
  rintro ⟨t, ht, he⟩
  omega
theorem desc_ok : ∀ i : Nat, i ≤ 256 → LL 256 (desc i)
  | 0, _ => LL.nil 256 (by omega)
  | i + 1, h => by
    rw [desc_succ]
    exact (desc_ok i (by omega)).link (by omega) (by omega) (desc_not (by omega))
theorem out_desc {i : Nat} (hi : i < 256) : out (256 - i) (desc i) = desc i :=
  List.filter_eq_self.2 (by intro a ha; simp; rintro rfl; exact desc_not hi ha)

theorem fresh_cells : fcells 0 (cut 0 (sc 0 [])) (cut 0 (pd 0 [])) = zlist := by kernel_rfl

set_option maxRecDepth 1000000 in
set_option maxHeartbeats 6400000 in
theorem names_all (w : World) : Calls Try.prog 3 #[] w fun e w' => e = .returned (.bool true) ∧ Still w w' := by
  have hz := zero_list
  go_enter Try.func3, Try.ntmps3
  go_wp2_with fail
  refine (lru_awake _).mono ?_
  rintro e w0 ⟨rfl, hs0⟩
  go_wp2_with fail
  refine (New_out (-1) (by omega)).mono ?_
  rintro e w1 ⟨rfl, rfl⟩
  go_wp2_with fail
  refine (New_out 257 (by omega)).mono ?_
  rintro e w1 ⟨rfl, rfl⟩
  go_wp2_with fail
  refine (New_in 0 (by omega)).mono ?_
  rintro e w1 ⟨g0, rfl, hg0, hb1, hs1⟩
  have hst1 := hs0.still hs1
  have hgw0 : w.heap.size ≤ g0 := by have := hs0.size; omega
  go_wp2_with fail
  refine (New_in 256 (by omega)).mono ?_
  rintro e w2 ⟨g, rfl, hg, hb2, hs2⟩
  have hst2 := hst1.still hs2
  have hbz := hb1.still hs2
  have hgw : w.heap.size ≤ g := by have := hst1.size; omega
  clear hs0 hg0 hb1 hs1 hst1 hs2 hg
  go_wp2_with fail
  refine (Use_out hbz 0 (by omega)).mono ?_
  rintro e w3 ⟨rfl, rfl⟩
  go_wp2_with fail
  go_loopw [9] (fun i wr => ∃ k : Nat, k ≤ 256 ∧ i = .int .i64 k ∧ Lst wr g 256 (desc k) ∧ Hid (Still w wr)) (fun i _ => 256 - (intOf i).toNat)
  case atStart => exact ⟨0, by omega, rfl, hb2, Lib.hid hst2⟩
  case round =>
    clear hb2 hst2 hbz
    obtain ⟨k, hk, rfl, hb, hst⟩ := hrel
    have hl := desc_ok k hk
    by_cases hlt : k < 256
    · have hsucc := desc_succ k
      have Hsucc := Lib.hid hsucc
      have hno := out_desc hlt
      have Hno := Lib.hid hno
      have e1 : (255 : Int) - (k : Int) = ((255 - k : Nat) : Int) := by omega
      clear hsucc hno
      go_wp2_with fail
      refine (Use_in hb hl (255 - k) (256 - k) (by omega) (by omega)).mono ?_
      rintro e w4 ⟨rfl, hb4, ho4⟩
      rw [Hno.out, ← Hsucc.out] at hb4
      clear e1
      go_wp2_with fail
      go_roundw
      case rel => exact ⟨k + 1, by omega, by go_num, hb4, Lib.hid (Still.only hst.out ho4 hgw)⟩
      case measure => simp [intOf]; omega
    · obtain rfl : k = 256 := by omega
      have hd : desc 256 = 256 :: (desc 256).tail := by decide +kernel
      have hne : desc 256 ≠ [] := by rw [hd]; simp
      have hlast : 1 = (desc 256).getLastD 0 := by decide +kernel
      have hlen := desc_length 256
      have hst' := hst.out
      generalize desc 256 = D at *
      go_wp2_with fail
      refine (Oldest_some (a := 256) (r := D.tail) (by rw [← hd]; exact hb) (by rw [← hd]; exact hl)).mono ?_
      rintro e w4 ⟨rfl, rfl⟩
      have Hd := Lib.hid hd
      have Hlast := Lib.hid hlast
      have Hlen := Lib.hid hlen
      clear hd hlast hlen hst
      go_wp2_with fail
      refine (Newest_some hb hl hne Hlast.out).mono ?_
      rintro e w4 ⟨rfl, rfl⟩
      go_wp2_with fail
      refine (Len_any hb hl).mono ?_
      rintro e w4 ⟨he, hs4⟩
      rw [Hlen.out] at he
      subst he
      have hb4 := hb.still hs4
      have hst4 := hst'.still hs4
      clear hb hst' hs4
      go_wp2_with fail
      refine (Use_out hb4 256 (by omega)).mono ?_
      rintro e w5 ⟨rfl, rfl⟩
      go_wp2_with fail
      refine (Use_out hb4 (-1) (by omega)).mono ?_
      rintro e w5 ⟨rfl, rfl⟩
      go_wp2_with fail
      refine (Has_out hb4 256 (by omega)).mono ?_
      rintro e w5 ⟨rfl, rfl⟩
      go_wp2_with fail
      refine (Has_out hb4 (-1) (by omega)).mono ?_
      rintro e w5 ⟨rfl, rfl⟩
      go_wp2_with fail
      refine (Drop_out hb4 (-1) (by omega)).mono ?_
      rintro e w5 ⟨rfl, rfl⟩
      go_wp2_with fail
      refine (Drop_out hb4 256 (by omega)).mono ?_
      rintro e w5 ⟨rfl, rfl⟩
      go_wp2_with fail
      refine (Oldest_nil _).mono ?_
      rintro e w5 ⟨rfl, rfl⟩
      go_wp2_with fail
      refine (Newest_nil _).mono ?_
      rintro e w5 ⟨rfl, rfl⟩
      have hf : Lst (w4.alloc (Obj.cells zlist 35)) w4.heap.size 0 [] := by
        unfold Lst LB
        rw [show ((0 : Nat) : Int) = 0 from rfl, fresh_cells]
        exact Blk.new _ _ _
      have hstf := hst4.alloc (Obj.cells zlist 35)
      clear hb4 hst4
      go_wp2_with fail
      refine (Oldest_none hf (by omega)).mono ?_
      rintro e w5 ⟨rfl, rfl⟩
      go_wp2_with fail
      refine (Use_nil _ _).mono ?_
      rintro e w5 ⟨rfl, rfl⟩
      go_wp2_with fail
      refine (Drop_nil _ _).mono ?_
      rintro e w5 ⟨rfl, rfl⟩
      go_wp2_with fail
      refine (Row_nil _).mono ?_
      rintro e w5 ⟨rfl, rfl⟩
      go_wp2_with fail
      refine (Len_nil _).mono ?_
      rintro e w5 ⟨rfl, rfl⟩
      go_wp2_with fail
      refine (Has_nil _ _).mono ?_
      rintro e w5 ⟨rfl, rfl⟩
      go_wp2_with fail
      refine (Copy_nil _).mono ?_
      rintro e w5 ⟨rfl, rfl⟩
      go_wp2_with fail
      refine (Use_out hf 0 (by omega)).mono ?_
      rintro e w5 ⟨rfl, rfl⟩
      go_wp2_with fail
      refine (Has_out hf 0 (by omega)).mono ?_
      rintro e w5 ⟨rfl, rfl⟩
      go_wp2_with fail
      refine (Len_any hf (LL.nil 0 (by omega))).mono ?_
      rintro e w5 ⟨rfl, hs5⟩
      go_wp2_with fail
      go_ret
      exact ⟨rfl, hstf.still hs5⟩
end Go.Proofs.Ytfbknjboceheaaa
