/-
  SipOn: Sum changes nothing; what is written to a copy changes nothing of the hash; for any key, any two texts.
-/
import Derived.Test.YtpgebejnpncemaaSipT
import Derived.Test.YtpgebejnpncemaaOpen
namespace Go.Proofs.Ytpgebejnpncemaa
open Go.RowKit
set_option linter.unusedVariables false

theorem Hsh.still {w w' : World} {g : Nat} {s : St} (h : Hsh w g s) (k : Still w w') : Hsh w' g s := Blk.only h k (fun h => h)
theorem Hsh.far {w w' : World} {g g' : Nat} {s : St} (h : Hsh w g s) (k : Only (· = g') w w') (hg : g ≠ g') : Hsh w' g s := Blk.only h k hg
theorem Only.far {w w' w'' : World} {g : Nat} (h : Still w w') (k : Only (· = g) w' w'') (hg : w.heap.size ≤ g) : Still w w'' := h.trans k (fun i hi e => by omega)
theorem byts_append (s t : ByteArray) : byts (s ++ t) = byts s ++ byts t := by
  unfold byts
  simp [ByteArray.toList_eq]

set_option maxRecDepth 1000000 in
set_option maxHeartbeats 6400000 in
theorem sipOn_walk (w : World) (k0 : Int) (h0 : (Lit.int .u64 k0).wf = true) (k1 : Int) (h1 : (Lit.int .u64 k1).wf = true) (s : ByteArray) (hs : s.size ≤ maxLen) (t : ByteArray) (ht : t.size ≤ maxLen) :
    Calls Try.prog 14 #[.int .u64 k0, .int .u64 k1, .string s, .string t] w fun e w' => e = .returned (.bool true) ∧ Still w w' := by
  have h0 := wf_u64 h0
  have h1 := wf_u64 h1
  clear hs ht
  go_enter Try.func14, Try.ntmps14
  by_cases hs : (5000 : Int) < (s.size : Int)
  · go_wp2_with fail
    refine (sip_awake _).mono ?_
    rintro e w1 ⟨rfl, hs1⟩
    go_wp2_with fail
    go_ret
    exact ⟨rfl, hs1⟩
  by_cases ht : (5000 : Int) < (t.size : Int)
  · go_wp2_with fail
    refine (sip_awake _).mono ?_
    rintro e w1 ⟨rfl, hs1⟩
    go_wp2_with fail
    go_ret
    exact ⟨rfl, hs1⟩
  go_wp2_with fail
  refine (sip_awake _).mono ?_
  rintro e w1 ⟨rfl, hs1⟩
  go_wp2_with fail
  refine (New_any h0 h1).mono ?_
  rintro e w2 ⟨g, rfl, hg, hb, hs2⟩
  have hgw : w.heap.size ≤ g := Nat.le_trans hs1.size hg
  have hb : Hsh w2 g (st0 k0 k1) := hb
  have hst := hs1.still hs2
  clear hs1 hs2 hg
  go_wp2_with fail
  have ok0 := st0_ok h0 h1
  have hsn : s.size ≤ 5000 := by omega
  have htn : t.size ≤ 5000 := by omega
  refine (Write_any hb ok0 s (by show 0 + _ < _; omega)).mono ?_
  rintro e w3 ⟨rfl, hb3, ho3⟩
  have hst3 := hst.far ho3 hgw
  have ok3 := St.eat_ok ok0 _ (byts_ok s)
  have hn3 : ((st0 k0 k1).eat (byts s)).n = s.size := by rw [St.eat_n, byts_len]; exact Nat.zero_add _
  have htop : hash k0 k1 (byts (s ++ t)) = (((st0 k0 k1).eat (byts s)).eat (byts t)).sum := by unfold hash; rw [byts_append, St.eat_append]
  have htop := Lib.hid htop
  generalize (st0 k0 k1).eat (byts s) = s3 at *
  clear hb ho3 hst
  go_wp2_with fail
  refine (Sum_any hb3 ok3 (by omega)).mono ?_
  rintro e w4 ⟨rfl, hs4⟩
  have hb4 := hb3.still hs4
  have hst4 := hst3.still hs4
  clear hb3 hst3 hs4
  go_wp2_with fail
  refine (Copy_any hb4 ok3).mono ?_
  rintro e w5 ⟨g', rfl, hg', hc5, hs5⟩
  have hgg : g < g' := Nat.lt_of_lt_of_le (Blk.lt hb4) hg'
  have hgw' : w.heap.size ≤ g' := by omega
  have hb5 := hb4.still hs5
  have hst5 := hst4.still hs5
  clear hb4 hst4 hs5 hg'
  go_wp2_with fail
  refine (Write_any hc5 ok3 t (by omega)).mono ?_
  rintro e w6 ⟨rfl, hc6, ho6⟩
  have hb6 := hb5.far ho6 (by omega)
  have hst6 := hst5.far ho6 hgw'
  have ok4 := St.eat_ok ok3 _ (byts_ok t)
  have hn4 : (s3.eat (byts t)).n = s.size + t.size := by rw [St.eat_n, byts_len, hn3]
  obtain ⟨s4, h4⟩ : ∃ s4, s4 = s3.eat (byts t) := ⟨_, rfl⟩
  rw [← h4] at hc6 ok4 hn4
  have htop4 := htop.out
  rw [← h4] at htop4
  have H4 := Lib.hid h4
  have Htop4 := Lib.hid htop4
  clear h4 htop4 htop hc5 hb5 hst5 ho6
  go_wp2_with fail
  refine (Sum_any hb6 ok3 (by omega)).mono ?_
  rintro e w7 ⟨rfl, hs7⟩
  have hb7 := hb6.still hs7
  have hc7 := hc6.still hs7
  have hst7 := hst6.still hs7
  clear hb6 hc6 hst6 hs7
  have hn3i : (s3.n : Int) = (s.size : Int) := by omega
  have hn4i : (s4.n : Int) = (s.size : Int) + (t.size : Int) := by omega
  go_wp2_with fail
  refine (Len_any hb7 ok3).mono ?_
  rintro e w8 ⟨rfl, rfl⟩
  go_wp2_with fail
  refine (Len_any hc7 ok4).mono ?_
  rintro e w8 ⟨rfl, rfl⟩
  go_wp2_with fail
  refine (Write_any hb7 ok3 t (by omega)).mono ?_
  rintro e w8 ⟨rfl, hb8, ho8⟩
  rw [← H4.out] at hb8
  have hc8 := hc7.far ho8 (by omega)
  have hst8 := hst7.far ho8 hgw
  clear hb7 hc7 hst7 ho8
  go_wp2_with fail
  refine (Sum_any hb8 ok4 (by omega)).mono ?_
  rintro e w9 ⟨rfl, hs9⟩
  have hb9 := hb8.still hs9
  have hc9 := hc8.still hs9
  have hst9 := hst8.still hs9
  clear hb8 hc8 hst8 hs9
  go_wp2_with fail
  refine (Sum_any hc9 ok4 (by omega)).mono ?_
  rintro e w10 ⟨rfl, hs10⟩
  have hb10 := hb9.still hs10
  have hst10 := hst9.still hs10
  clear hb9 hc9 hst9 hs10
  go_wp2_with fail
  refine (Sum_any hb10 ok4 (by omega)).mono ?_
  rintro e w11 ⟨rfl, hs11⟩
  have hst11 := hst10.still hs11
  clear hb10 hst10 hs11
  go_wp2_with fail
  have hsz : (s ++ t).size < 1000000000 := by rw [ByteArray.size_append]; omega
  refine (SumTop_any h0 h1 (s ++ t) hsz).mono ?_
  rw [Htop4.out]
  rintro e w12 ⟨rfl, hs12⟩
  have hst12 := hst11.still hs12
  go_wp2_with fail
  go_ret
  exact ⟨rfl, hst12⟩
end Go.Proofs.Ytpgebejnpncemaa
