/-
  The reference of names: digits, Text.
-/
import Derived.Test.YtjenabcjikdnaaaNameRef4
namespace Go.Proofs.Ytjenabcjikdnaaa
open Go.RowKit
set_option linter.unusedVariables false
set_option linter.unusedSimpArgs false

def dig (c : UInt8) : List UInt8 := [UInt8.ofNat (48 + c.toNat / 100), UInt8.ofNat (48 + c.toNat / 10 % 10), UInt8.ofNat (48 + c.toNat % 10)]
set_option maxRecDepth 1000000 in
set_option maxHeartbeats 1600000 in
theorem digits_any (c : UInt8) (w : World) :
    Calls Try.prog 46 #[.int .u8 (c.toNat : Int)] w fun e w' => e = .returned (.string (mk (dig c))) ∧ Still w w' := by
  have hc8 : c.toNat < 256 := UInt8.toNat_lt _
  have d1 : (((UInt8.ofNat (48 + c.toNat / 100)).toNat : Nat) : Int) = 48 + (c.toNat : Int) / 100 := by simp [UInt8.toNat_ofNat']; omega
  have d2 : (((UInt8.ofNat (48 + c.toNat / 10 % 10)).toNat : Nat) : Int) = 48 + (c.toNat : Int) / 10 % 10 := by simp [UInt8.toNat_ofNat']; omega
  have d3 : (((UInt8.ofNat (48 + c.toNat % 10)).toNat : Nat) : Int) = 48 + (c.toNat : Int) % 10 := by simp [UInt8.toNat_ofNat']; omega
  have hD : dig c = [UInt8.ofNat (48 + c.toNat / 100), UInt8.ofNat (48 + c.toNat / 10 % 10), UInt8.ofNat (48 + c.toNat % 10)] := rfl
  rw [hD]
  generalize UInt8.ofNat (48 + c.toNat / 100) = z1 at *
  generalize UInt8.ofNat (48 + c.toNat / 10 % 10) = z2 at *
  generalize UInt8.ofNat (48 + c.toNat % 10) = z3 at *
  have hB := Blk.new w 5 #[.int .u8 (48 + (c.toNat : Int) / 100), .int .u8 (48 + (c.toNat : Int) / 10 % 10), .int .u8 (48 + (c.toNat : Int) % 10)]
  have hs3 := Still.new w (.cells #[.int .u8 (48 + (c.toNat : Int) / 100), .int .u8 (48 + (c.toNat : Int) / 10 % 10), .int .u8 (48 + (c.toNat : Int) % 10)] 5)
  have cv : (convert 42 9 (.slice (some ⟨w.heap.size, 0, none⟩) 3 3)).run Try.prog (w.alloc (.cells #[.int .u8 (48 + (c.toNat : Int) / 100), .int .u8 (48 + (c.toNat : Int) / 10 % 10), .int .u8 (48 + (c.toNat : Int) % 10)] 5)) = .ok (.string (mk [z1, z2, z3])) (w.alloc (.cells #[.int .u8 (48 + (c.toNat : Int) / 100), .int .u8 (48 + (c.toNat : Int) / 10 % 10), .int .u8 (48 + (c.toNat : Int) % 10)] 5)) := of_bytes (w.alloc (.cells #[.int .u8 (48 + (c.toNat : Int) / 100), .int .u8 (48 + (c.toNat : Int) / 10 % 10), .int .u8 (48 + (c.toNat : Int) % 10)] 5)) w.heap.size 3 [z1, z2, z3] (fun j hj => by
    match j, hj with
    | 0, _ => show _ = some (Value.int .u8 ((z1.toNat : Nat) : Int)); rw [d1]; exact hB.cell 0
    | 1, _ => show _ = some (Value.int .u8 ((z2.toNat : Nat) : Int)); rw [d2]; exact hB.cell 1
    | 2, _ => show _ = some (Value.int .u8 ((z3.toNat : Nat) : Int)); rw [d3]; exact hB.cell 2)
  clear hB d1 d2 d3 hD
  go_enter Try.func46, Try.ntmps46
  go_wp2_with fail
  go_ret
  exact ⟨rfl, hs3⟩

def textS (s : ByteArray) : ByteArray := if mayN s.data.toList = true then mk (textL (labs s)) else mk []
theorem textS_no {s : ByteArray} (h : mayN s.data.toList = false) : textS s = mk [] := by unfold textS; rw [h]; rfl
theorem textS_enc {L : List Lab} (h : okL L) : textS (mk (enc L)) = mk (textL L) := by
  unfold textS
  rw [may_b h, labs_enc h]; rfl
theorem text_s (s : ByteArray) (hs : s.size ≤ 3000) (w : World) : Calls Try.prog 20 #[.string s] w fun e w' => e = .returned (.string (textS s)) ∧ Still w w' := by
  rcases hm : mayN s.data.toList with _ | _
  · rw [textS_no hm]
    exact text_no s (by unfold maxLen; omega) hm w
  · obtain ⟨L, hL, rfl⟩ := may_mk hm
    rw [textS_enc hL]
    exact text_any L hL w
theorem esc_cases (c : UInt8) : ((c.toNat = 46 ∨ c.toNat = 92) ∧ esc c = [92, c]) ∨ (¬ (c.toNat = 46 ∨ c.toNat = 92) ∧ (c.toNat < 33 ∨ 126 < c.toNat) ∧ esc c = 92 :: dig c) ∨ (¬ (c.toNat = 46 ∨ c.toNat = 92) ∧ ¬ (c.toNat < 33 ∨ 126 < c.toNat) ∧ esc c = [c]) := by
  unfold esc dig
  by_cases h1 : c.toNat = 46 ∨ c.toNat = 92
  · exact .inl ⟨h1, by rw [if_pos h1]⟩
  · rw [if_neg h1]
    by_cases h2 : c.toNat < 33 ∨ 126 < c.toNat
    · exact .inr (.inl ⟨h1, h2, by rw [if_pos h2]⟩)
    · exact .inr (.inr ⟨h1, h2, by rw [if_neg h2]⟩)

set_option maxRecDepth 1000000 in
set_option maxHeartbeats 6400000 in
theorem rtext_any (s : ByteArray) (hs : s.size ≤ 3000) (w : World) :
    Calls Try.prog 28 #[.string s] w fun e w' => e = .returned (.string (textS s)) ∧ Still w w' := by
  go_enter Try.func28, Try.ntmps28
  go_wp2_with fail
  refine (rlabels_any s hs w).mono ?_
  rintro e w2 (⟨hm, rfl, h2⟩ | ⟨L, A, c, hm, rfl, hown, h2⟩)
  · have hf : Hid (textS s = mk []) := Lib.hid (textS_no hm.out)
    clear hm
    go_wp2_with fail
    go_ret
    exact ⟨by rw [hf.out]; rfl, h2⟩
  · have hf : Hid (textS s = mk (textL L)) := Lib.hid (by rw [hm.out.2]; exact textS_enc hm.out.1)
    by_cases h0 : L = []
    · subst h0
      clear hm hown
      go_wp2_with fail
      go_ret
      exact ⟨by rw [hf.out]; rfl, h2⟩
    have hLL : 0 < L.length := List.length_pos_iff.2 h0
    have ht : Hid (textS s = mk (L.flatMap labT)) := Lib.hid (by rw [hf.out]; unfold textL; rw [if_neg h0])
    have hl := hm.out.1.len
    have hsz := hm.out.1.2
    have hLab := Lib.hid (fun k hk => hm.out.1.lab k hk)
    obtain ⟨g, rfl, g1, g2, g3, g4, hc⟩ := row_at hown hLL
    have HC := Lib.hid hc
    have hl0 : ((L.length : Int) == 0) = false := by rw [beq_eq_false_iff_ne]; omega
    have hl0' : ¬ L.length = 0 := by omega
    clear hm hf hown hc h0 hLL
    go_wp2_with fail
    go_loopw [5, 6] (fun i5 i wr => ∃ k : Nat, k ≤ L.length ∧ i5 = .string (mk ((L.take k).flatMap labT)) ∧ i = .int .i64 k ∧ Still w2 wr) (fun _ i _ => L.length - (intOf i).toNat)
    case atStart => exact ⟨0, by omega, rfl, rfl, Only.refl _ _⟩
    case round =>
      obtain ⟨k, hk, rfl, rfl, hst⟩ := hrel
      by_cases hlt : k < L.length
      · have i1 : (k : Int) < (L.length : Int) := by omega
        have hcell := hst.cell_some (p := ⟨g, k, none⟩) (fun h => h) (HC.out k hlt)
        have hsn := take_snoc labT L k hlt
        have htl := text_take L k
        have hxl := hLab.out k hlt
        obtain ⟨x, hx⟩ : ∃ x, x = L[k] := ⟨_, rfl⟩
        rw [← hx] at hcell hsn hxl
        have HS := Lib.hid hsn
        have hxs := mk_size x
        obtain ⟨P, hP⟩ : ∃ P, P = (L.take k).flatMap labT := ⟨_, rfl⟩
        rw [← hP] at htl HS ⊢
        have ik : IntKind.i64.wrap ((k : Int) + 1) = ((k + 1 : Nat) : Int) := by rw [IntWalk.i64_in _ (by omega)]; push_cast; rfl
        clear hx hsn hP
        go_wp2_with fail
        have HCX := Lib.hid hcell
        clear hcell
        go_loopw [5, 7] (fun i5 i wq => ∃ j : Nat, j ≤ x.length ∧ i5 = .string (mk (P ++ (x.take j).flatMap esc)) ∧ i = .int .i64 j ∧ Hid (wq.cell? ⟨g, k, none⟩ = some (.string (mk x))) ∧ Still w2 wq) (fun _ i _ => x.length - (intOf i).toNat)
        case atStart => exact ⟨0, by omega, by simp, rfl, HCX, hst⟩
        case round =>
          clear hst HCX
          obtain ⟨j, hj, rfl, rfl, HCX, hst⟩ := hrel
          have hcell := HCX.out
          by_cases hjl : j < x.length
          · have j1 : (j : Int) < (x.length : Int) := by omega
            have j2 : j < (mk x).size := by rw [mk_size]; exact hjl
            have hfl := flat_take x j
            have i2 : IntKind.i64.wrap ((j : Int) + 1) = ((j + 1 : Nat) : Int) := by rw [IntWalk.i64_in _ (by omega)]; push_cast; rfl
            obtain ⟨b, hb⟩ : ∃ b, b = x[j] := ⟨_, rfl⟩
            have hjn : (x.take (j + 1)).flatMap esc = (x.take j).flatMap esc ++ esc b := by rw [hb]; exact take_snoc esc x j hjl
            have hgt : (mk x)[j] = b := by rw [hb]; exact mk_get j2
            have HJ := Lib.hid hjn
            obtain ⟨Q, hQ⟩ : ∃ Q, Q = P ++ (x.take j).flatMap esc := ⟨_, rfl⟩
            have hQl : Q.length ≤ 3000 := by rw [hQ, List.length_append]; omega
            have HJ2 : Hid (P ++ (x.take (j + 1)).flatMap esc = Q ++ esc b) := Lib.hid (by rw [HJ.out, hQ, List.append_assoc])
            rw [← hQ]
            have hb8 : b.toNat < 256 := UInt8.toNat_lt _
            have a1 : mk Q ++ ⟨#[92]⟩ = mk (Q ++ [92]) := mk_append Q [92]
            have m1 : ¬ 9223372036854775807 < (mk Q).size + 1 := by rw [mk_size]; omega
            have a2 : mk Q ++ mk [b] = mk (Q ++ [b]) := mk_append Q [b]
            have m2 : ¬ 9223372036854775807 < (mk Q).size + (mk [b]).size := by rw [mk_size, mk_size]; simp only [List.length_cons, List.length_nil]; omega
            have a3 : mk (Q ++ [92]) ++ mk [b] = mk (Q ++ [92] ++ [b]) := mk_append _ [b]
            have m3 : ¬ 9223372036854775807 < (mk (Q ++ [92])).size + (mk [b]).size := by rw [mk_size, mk_size, List.length_append]; simp only [List.length_cons, List.length_nil]; omega
            have a4 : mk (Q ++ [92]) ++ mk (dig b) = mk (Q ++ [92] ++ dig b) := mk_append _ _
            have hdl : (dig b).length = 3 := rfl
            have m4 : ¬ 9223372036854775807 < (mk (Q ++ [92])).size + (mk (dig b)).size := by rw [mk_size, mk_size, List.length_append, hdl]; simp only [List.length_cons, List.length_nil]; omega
            have cv : (convert 42 9 (.slice (some ⟨wr.heap.size, 0, none⟩) 1 1)).run Try.prog (wr.alloc (.cells #[.int .u8 (b.toNat : Int)] 5)) = .ok (.string (mk [b])) (wr.alloc (.cells #[.int .u8 (b.toNat : Int)] 5)) := of_bytes _ wr.heap.size 1 [b] (fun j hj => by
              have hj0 : j = 0 := by simp at hj; omega
              subst hj0
              exact (Blk.new wr 5 #[.int .u8 (b.toNat : Int)]).cell 0)
            have hsa := hst.alloc (.cells #[.int .u8 (b.toNat : Int)] 5)
            have hca : Hid ((wr.alloc (.cells #[.int .u8 (b.toNat : Int)] 5)).cell? ⟨g, k, none⟩ = some (.string (mk x))) := Lib.hid ((Still.new wr _).cell_some (fun h => h) hcell)
            clear hjn hQ hb hdl
            rcases esc_cases b with ⟨e1, e2⟩ | ⟨e1, e2, e3⟩ | ⟨e1, e2, e3⟩
            · have HF : Hid (P ++ (x.take (j + 1)).flatMap esc = Q ++ [92] ++ [b]) := Lib.hid (by rw [HJ2.out, e2]; simp)
              clear e2 HJ2
              rcases e1 with e1 | e1
              · have n1 : ((b.toNat : Int) == 46) = true := by rw [beq_iff_eq]; omega
                have n3 : ¬ (b.toNat : Int) < 33 := by omega
                have n4 : ¬ (126 : Int) < (b.toNat : Int) := by omega
                clear e1
                go_wp2_with fail
                exact ⟨⟨j + 1, by omega, by rw [HF.out]; first | rfl | simp, by push_cast; rfl, hca, hsa⟩, by simp [intOf]; omega⟩
              · have n1 : ((b.toNat : Int) == 46) = false := by rw [beq_eq_false_iff_ne]; omega
                have n2 : ((b.toNat : Int) == 92) = true := by rw [beq_iff_eq]; omega
                have n3 : ¬ (b.toNat : Int) < 33 := by omega
                have n4 : ¬ (126 : Int) < (b.toNat : Int) := by omega
                clear e1
                go_wp2_with fail
                exact ⟨⟨j + 1, by omega, by rw [HF.out]; first | rfl | simp, by push_cast; rfl, hca, hsa⟩, by simp [intOf]; omega⟩
            · have HF : Hid (P ++ (x.take (j + 1)).flatMap esc = Q ++ [92] ++ dig b) := Lib.hid (by rw [HJ2.out, e3]; simp)
              have n1 : ((b.toNat : Int) == 46) = false := by rw [beq_eq_false_iff_ne]; omega
              have n2 : ((b.toNat : Int) == 92) = false := by rw [beq_eq_false_iff_ne]; omega
              clear e3 HJ2 hsa hca cv
              rcases e2 with e2 | e2
              · have n3 : (b.toNat : Int) < 33 := by omega
                go_wp2_with fail
                refine (digits_any b wr).mono ?_
                rintro e wd ⟨rfl, hd⟩
                have hsd := hst.still hd
                have hcd := Lib.hid (hd.cell_some (fun h => h) hcell)
                clear hd hst hcell HCX
                generalize dig b = db at *
                go_wp2_with fail
                exact ⟨⟨j + 1, by omega, by rw [HF.out]; first | rfl | simp, by push_cast; rfl, hcd, hsd⟩, by simp [intOf]; omega⟩
              · have n3 : ¬ (b.toNat : Int) < 33 := by omega
                have n4 : (126 : Int) < (b.toNat : Int) := by omega
                go_wp2_with fail
                refine (digits_any b wr).mono ?_
                rintro e wd ⟨rfl, hd⟩
                have hsd := hst.still hd
                have hcd := Lib.hid (hd.cell_some (fun h => h) hcell)
                clear hd hst hcell HCX
                generalize dig b = db at *
                go_wp2_with fail
                exact ⟨⟨j + 1, by omega, by rw [HF.out]; first | rfl | simp, by push_cast; rfl, hcd, hsd⟩, by simp [intOf]; omega⟩
            · have HF : Hid (P ++ (x.take (j + 1)).flatMap esc = Q ++ [b]) := Lib.hid (by rw [HJ2.out, e3])
              have n1 : ((b.toNat : Int) == 46) = false := by rw [beq_eq_false_iff_ne]; omega
              have n2 : ((b.toNat : Int) == 92) = false := by rw [beq_eq_false_iff_ne]; omega
              have n3 : ¬ (b.toNat : Int) < 33 := by omega
              have n4 : ¬ (126 : Int) < (b.toNat : Int) := by omega
              clear e1 e2 e3 HJ2
              go_wp2_with fail
              exact ⟨⟨j + 1, by omega, by rw [HF.out], by push_cast; rfl, hca, hsa⟩, by simp [intOf]; omega⟩
          · have j1 : ¬ (j : Int) < (x.length : Int) := by omega
            have htx : x.take j = x := List.take_of_length_le (by omega)
            have hfx := flat_len x
            have HF : Hid ((L.take (k + 1)).flatMap labT = P ++ x.flatMap esc ++ [46]) := Lib.hid (by rw [HS.out]; unfold labT; simp)
            rw [htx]
            have hQl : (P ++ x.flatMap esc).length ≤ 3000 := by rw [List.length_append]; omega
            generalize P ++ x.flatMap esc = Q at *
            have a1 : mk Q ++ ⟨#[46]⟩ = mk (Q ++ [46]) := mk_append Q [46]
            have m1 : ¬ 9223372036854775807 < (mk Q).size + 1 := by rw [mk_size]; omega
            clear htx
            go_wp2_with fail
            exact ⟨⟨k + 1, by omega, by rw [HF.out], by push_cast; rfl, hst⟩, by simp [intOf]; omega⟩
      · have i1 : ¬ (k : Int) < (L.length : Int) := by omega
        rw [List.take_of_length_le (by omega)]
        have hfin := h2.still hst
        go_wp2_with fail
        go_ret
        exact ⟨by rw [ht.out]; rfl, hfin⟩
end Go.Proofs.Ytjenabcjikdnaaa
