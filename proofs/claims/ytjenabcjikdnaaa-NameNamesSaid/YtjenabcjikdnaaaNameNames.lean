/-
  NameNames.
-/
import Derived.Test.YtjenabcjikdnaaaNameMany
namespace Go.Proofs.Ytjenabcjikdnaaa
open Go.RowKit
set_option linter.unusedVariables false
set_option linter.unusedSimpArgs false

/-- Texts that are none. -/
def badL (E2 : ByteArray) : List ByteArray := [⟨#[]⟩, ⟨#[46, 46]⟩, ⟨#[46, 97]⟩, ⟨#[97, 46, 46]⟩, ⟨#[97, 46, 46, 98]⟩, ⟨#[97, 32, 98]⟩, ⟨#[97, 127]⟩, ⟨#[195, 169]⟩, ⟨#[255]⟩, ⟨#[97, 92]⟩, ⟨#[97, 92, 49]⟩, ⟨#[97, 92, 49, 50]⟩, ⟨#[97, 92, 49, 50, 120]⟩, ⟨#[97, 92, 50, 53, 54]⟩, ⟨#[97, 92, 32]⟩, ⟨#[97, 92, 195, 169]⟩, E2, ⟨#[0]⟩]
def badC (E2 : ByteArray) : Array Value := #[.string ⟨#[]⟩, .string ⟨#[46, 46]⟩, .string ⟨#[46, 97]⟩, .string ⟨#[97, 46, 46]⟩, .string ⟨#[97, 46, 46, 98]⟩, .string ⟨#[97, 32, 98]⟩, .string ⟨#[97, 127]⟩, .string ⟨#[195, 169]⟩, .string ⟨#[255]⟩, .string ⟨#[97, 92]⟩, .string ⟨#[97, 92, 49]⟩, .string ⟨#[97, 92, 49, 50]⟩, .string ⟨#[97, 92, 49, 50, 120]⟩, .string ⟨#[97, 92, 50, 53, 54]⟩, .string ⟨#[97, 92, 32]⟩, .string ⟨#[97, 92, 195, 169]⟩, .string E2, .string ⟨#[0]⟩]
theorem bad_cell (E2 : ByteArray) (k : Nat) (h : k < 18) : (badC E2)[k]? = some (.string ((badL E2).getD k ⟨#[]⟩)) := by
  have e : badC E2 = ((badL E2).map Value.string).toArray := rfl
  have hl : k < (badL E2).length := h
  rw [e, List.getElem?_toArray, List.getElem?_map, List.getElem?_eq_getElem hl, List.getD_eq_getElem?_getD, List.getElem?_eq_getElem hl]
  rfl
theorem bad_all (E2 : ByteArray) (hE : E2 = mk (List.replicate 300 120 ++ [46, 46])) : ∀ x ∈ badL E2, x.size ≤ 3000 ∧ parseE x.data.toList = 3 ∧ parseB x.data.toList = [] := by
  subst hE
  intro x hx
  simp only [badL, List.mem_cons, List.not_mem_nil, or_false] at hx
  rcases hx with rfl | rfl | rfl | rfl | rfl | rfl | rfl | rfl | rfl | rfl | rfl | rfl | rfl | rfl | rfl | rfl | rfl | rfl
  all_goals exact ⟨of_decide_eq_true (by kernel_rfl), by kernel_rfl, by kernel_rfl⟩
theorem bad_parse (E2 : ByteArray) (hE : E2 = mk (List.replicate 300 120 ++ [46, 46])) (k : Nat) (h : k < 18) : ((badL E2).getD k ⟨#[]⟩).size ≤ 3000 ∧ parseE ((badL E2).getD k ⟨#[]⟩).data.toList = 3 ∧ parseB ((badL E2).getD k ⟨#[]⟩).data.toList = [] := by
  have hl : k < (badL E2).length := h
  rw [List.getD_eq_getElem?_getD, List.getElem?_eq_getElem hl]
  exact bad_all E2 hE _ (List.getElem_mem hl)
theorem reads_blk {w : World} {g : Nat} {cs : Array Value} {L : List Lab} {n : Nat} (h : Blk w g 9 cs) (hc : cs.toList = sv L) (hn : L.length = n) : Reads w w.heap.size 1 (some ⟨g, 0, none⟩) n (sv L) := by
  refine ⟨by rw [sv_length]; omega, fun _ => ⟨⟨g, 0, none⟩, rfl, h.lt, fun j u hu => ?_⟩⟩
  rw [show (⟨g, 0, none⟩ : Addr).add j = ⟨g, j, none⟩ by unfold Addr.add; split <;> simp_all, h.cell j, ← Array.getElem?_toList, hc]
  exact hu

set_option maxRecDepth 1000000 in
set_option maxHeartbeats 12800000 in
theorem names_walk (w : World) : Calls Try.prog 3 #[] w fun e w' => e = .returned (.bool true) ∧ Still w w' := by
  have hS : Still w w := Only.refl _ _
  have x61 := xs_size 61
  have l61 : (xs 61).size ≤ 3000 := by omega
  have x62 := xs_size 62
  have l62 : (xs 62).size ≤ 3000 := by omega
  have x63 := xs_size 63
  have l63 : (xs 63).size ≤ 3000 := by omega
  have x64 := xs_size 64
  have l64 : (xs 64).size ≤ 3000 := by omega
  have x300 := xs_size 300
  have l300 : (xs 300).size ≤ 3000 := by omega
  obtain ⟨C1, hC1⟩ : ∃ C, C = mk ([64] ++ List.replicate 64 120) := ⟨_, rfl⟩
  have eC1 : (⟨#[64]⟩ : ByteArray) ++ (xs 64) = C1 := by rw [hC1]; exact mk_append _ _
  have zC1 : C1.size = 65 := by rw [hC1]; kernel_rfl
  have sC1 : C1.size ≤ 3000 := by omega
  obtain ⟨C2, hC2⟩ : ∃ C, C = mk (([64] ++ List.replicate 64 120) ++ [0]) := ⟨_, rfl⟩
  have eC2 : C1 ++ (⟨#[0]⟩ : ByteArray) = C2 := by rw [hC1, hC2]; exact mk_append _ _
  have zC2 : C2.size = 66 := by rw [hC2]; kernel_rfl
  have sC2 : C2.size ≤ 3000 := by omega
  obtain ⟨C3, hC3⟩ : ∃ C, C = mk ([63] ++ List.replicate 63 120) := ⟨_, rfl⟩
  have eC3 : (⟨#[63]⟩ : ByteArray) ++ (xs 63) = C3 := by rw [hC3]; exact mk_append _ _
  have zC3 : C3.size = 64 := by rw [hC3]; kernel_rfl
  have sC3 : C3.size ≤ 3000 := by omega
  obtain ⟨C4, hC4⟩ : ∃ C, C = mk (([63] ++ List.replicate 63 120) ++ [0]) := ⟨_, rfl⟩
  have eC4 : C3 ++ (⟨#[0]⟩ : ByteArray) = C4 := by rw [hC3, hC4]; exact mk_append _ _
  have zC4 : C4.size = 65 := by rw [hC4]; kernel_rfl
  have sC4 : C4.size ≤ 3000 := by omega
  have mC2 : mayN C2.data.toList = false := by rw [hC2]; kernel_rfl
  have mC4 : mayN C4.data.toList = true := by rw [hC4]; kernel_rfl
  have mb0 : mayN [] = false := by kernel_rfl
  have mb1 : mayN [1] = false := by kernel_rfl
  have mb2 : mayN [1, 97] = false := by kernel_rfl
  have mb3 : mayN [0, 0] = false := by kernel_rfl
  have mb4 : mayN [192, 0] = false := by kernel_rfl
  clear hC1 hC2 hC3 hC4
  go_enter Try.func3, Try.ntmps3
  go_wp2_with (first | (go_at_call 12; refine (name_awake _).mono ?_; rintro e w' ⟨rfl, hst⟩; have hS := hS.still hst; clear hst) | (go_at_call 14; refine (many_x _ (by decide) _).mono ?_; rintro e w' ⟨rfl, hst⟩; have hS := hS.still hst; clear hst) | (go_at_call 16; refine (reads_ok _ _ _ (by first | assumption | decide) (by first | assumption | decide) (by assumption) (by assumption) (by assumption) _).mono ?_; rintro e w' ⟨rfl, hst⟩; have hS := hS.still hst; clear hst) | (go_at_call 13; refine (may_s _ (by first | assumption | decide) _).mono ?_; rintro e w' ⟨rfl, hst⟩; have hS := hS.still hst; clear hst) | (go_at_call 21; refine (same_s _ _ (by first | assumption | decide) (by first | assumption | decide) _).mono ?_; rintro e w' ⟨rfl, hst⟩; have hS := hS.still hst; clear hst) | (go_at_call 22; refine (compare_s _ _ (by first | assumption | decide) (by first | assumption | decide) _).mono ?_; rintro e w' ⟨rfl, hst⟩; have hS := hS.still hst; clear hst) | (go_at_call 23; refine (fold_s _ (by first | assumption | decide) _).mono ?_; rintro e w' ⟨rfl, hst⟩; have hS := hS.still hst; clear hst) | (go_at_call 20; refine (text_s _ (by first | assumption | decide) _).mono ?_; rintro e w' ⟨rfl, hst⟩; have hS := hS.still hst; clear hst) | (go_at_call 17; refine (parse_s _ (by first | assumption | decide) _).mono ?_; rintro e w' ⟨rfl, hst⟩; have hS := hS.still hst; clear hst))
  have HKw : Hid (w.heap.size ≤ w'.heap.size) := Lib.hid hS.size
  have hB0 := Blk.new w' 9 #[.string (xs 63), .string (xs 63), .string (xs 63), .string (xs 61)]
  have hS := hS.alloc (.cells #[.string (xs 63), .string (xs 63), .string (xs 63), .string (xs 61)] 9)
  generalize w'.alloc (.cells #[.string (xs 63), .string (xs 63), .string (xs 63), .string (xs 61)] 9) = v0 at *
  obtain ⟨K, hK⟩ : ∃ K, K = w'.heap.size := ⟨_, rfl⟩
  rw [← hK] at hB0 HKw ⊢
  clear hK
  obtain ⟨F, hF⟩ : ∃ F, F = mk (joinB [List.replicate 63 120, List.replicate 63 120, List.replicate 63 120, List.replicate 61 120]) := ⟨_, rfl⟩
  have hj := join_any (some ⟨K, 0, none⟩) 4 4 [List.replicate 63 120, List.replicate 63 120, List.replicate 63 120, List.replicate 61 120] rfl (by omega) v0 (reads_blk hB0 rfl rfl)
  rw [show joinE [List.replicate 63 120, List.replicate 63 120, List.replicate 63 120, List.replicate 61 120] = 0 by kernel_rfl, ← hF] at hj
  have zF : F.size = 255 := by rw [hF]; kernel_rfl
  have sF : F.size ≤ 3000 := by omega
  have mF : mayN F.data.toList = true := by rw [hF]; kernel_rfl
  have HF := Lib.hid hF
  clear hF
  refine hj.mono ?_
  rintro e v1 ⟨rfl, h1⟩
  have hS := hS.still h1
  have hB1 := hB0.only h1 (fun h => h)
  clear h1 hj hB0
  go_wp2_with fail
  refine (many_x 62 (by decide) _).mono ?_
  rintro e v2 ⟨rfl, h2⟩
  have hS := hS.still h2
  have hB2 := hB1.only h2 (fun h => h)
  have c3 : v2.cell? ⟨K, 3, none⟩ = some (.string (xs 61)) := hB2.cell 3
  have f3 := hB2.frozen 3
  have hB3 : Blk (v2.setCell ⟨K, 3, none⟩ (.string (xs 62))) K 9 #[.string (xs 63), .string (xs 63), .string (xs 63), .string (xs 62)] := hB2.set_ 3 (.string (xs 62))
  have ho3 := hB2.lt
  have hK0 : w.heap.size ≤ K := HKw.out
  have hS3 := hS.setCell (p := ⟨K, 3, none⟩) (.inr hK0) (.string (xs 62))
  clear h2 hB1
  go_wp2_with fail
  clear c3 f3 hB2 hS
  generalize v2.setCell ⟨K, 3, none⟩ (.string (xs 62)) = v3 at *
  have hj := join_any (some ⟨K, 0, none⟩) 4 4 [List.replicate 63 120, List.replicate 63 120, List.replicate 63 120, List.replicate 62 120] rfl (by omega) v3 (reads_blk hB3 rfl rfl)
  rw [show joinE [List.replicate 63 120, List.replicate 63 120, List.replicate 63 120, List.replicate 62 120] = 5 by kernel_rfl] at hj
  generalize joinB [List.replicate 63 120, List.replicate 63 120, List.replicate 63 120, List.replicate 62 120] = j2 at *
  refine hj.mono ?_
  rintro e v4 ⟨rfl, h4⟩
  have hS := hS3.still h4
  have hB4 := hB3.only h4 (fun h => h)
  clear h4 hj hB3 hS3
  go_wp2_with fail
  refine (many_x 64 (by decide) _).mono ?_
  rintro e v5 ⟨rfl, h5⟩
  have hS := hS.still h5
  have hB5 := hB4.only h5 (fun h => h)
  have c0 : v5.cell? ⟨K, 0, none⟩ = some (.string (xs 63)) := hB5.cell 0
  have f0 := hB5.frozen 0
  have hB6 : Blk (v5.setCell ⟨K, 0, none⟩ (.string (xs 64))) K 9 #[.string (xs 64), .string (xs 63), .string (xs 63), .string (xs 62)] := hB5.set_ 0 (.string (xs 64))
  have hS6 := hS.setCell (p := ⟨K, 0, none⟩) (.inr hK0) (.string (xs 64))
  clear h5 hB4
  go_wp2_with fail
  clear c0 f0 hB5 hS
  generalize v5.setCell ⟨K, 0, none⟩ (.string (xs 64)) = v6 at *
  have hj := join_any (some ⟨K, 0, none⟩) 4 4 [List.replicate 64 120, List.replicate 63 120, List.replicate 63 120, List.replicate 62 120] rfl (by omega) v6 (reads_blk hB6 rfl rfl)
  rw [show joinE [List.replicate 64 120, List.replicate 63 120, List.replicate 63 120, List.replicate 62 120] = 1 by kernel_rfl] at hj
  generalize joinB [List.replicate 64 120, List.replicate 63 120, List.replicate 63 120, List.replicate 62 120] = j3 at *
  refine hj.mono ?_
  rintro e v7 ⟨rfl, h7⟩
  have hS := hS6.still h7
  clear h7 hj hB6 hS6
  go_wp2_with fail
  have hj := join_any none 0 0 [] rfl (by omega) v7 Reads.none_
  rw [show joinE [] = 0 by kernel_rfl, show mk (joinB []) = ⟨#[0]⟩ by kernel_rfl] at hj
  refine hj.mono ?_
  rintro e v8 ⟨rfl, h8⟩
  have hS := hS.still h8
  clear h8 hj
  go_wp2_with fail
  have hB9 := Blk.new v8 9 #[.string ⟨#[97]⟩, .string ⟨#[]⟩]
  have hS9 := hS.alloc (.cells #[.string ⟨#[97]⟩, .string ⟨#[]⟩] 9)
  have hj := join_any (some ⟨v8.heap.size, 0, none⟩) 2 2 [[97], []] rfl (by omega) _ (reads_blk hB9 rfl rfl)
  rw [show joinE [[97], []] = 1 by kernel_rfl] at hj
  generalize joinB [[97], []] = j4 at *
  refine hj.mono ?_
  rintro e v10 ⟨rfl, h10⟩
  have hS := hS9.still h10
  clear h10 hj hB9 hS9
  clear eC1 zC1 sC1 eC2 zC2 sC2 eC3 zC3 sC3 eC4 zC4 sC4 mC2 mC4 mb0 mb1 mb2 mb3 mb4
  have ra0 : parseE (⟨#[97, 92, 46, 98]⟩ : ByteArray).data.toList = 0 := by kernel_rfl
  have rb0 : mk (parseB (⟨#[97, 92, 46, 98]⟩ : ByteArray).data.toList) = (⟨#[3, 97, 46, 98, 0]⟩ : ByteArray) := by kernel_rfl
  have rc0 : textS (⟨#[3, 97, 46, 98, 0]⟩ : ByteArray) = (⟨#[97, 92, 46, 98, 46]⟩ : ByteArray) := by kernel_rfl
  have ra1 : parseE (⟨#[92, 48, 48, 48, 92, 50, 53, 53, 46]⟩ : ByteArray).data.toList = 0 := by kernel_rfl
  have rb1 : mk (parseB (⟨#[92, 48, 48, 48, 92, 50, 53, 53, 46]⟩ : ByteArray).data.toList) = (⟨#[2, 0, 255, 0]⟩ : ByteArray) := by kernel_rfl
  have rc1 : textS (⟨#[2, 0, 255, 0]⟩ : ByteArray) = (⟨#[92, 48, 48, 48, 92, 50, 53, 53, 46]⟩ : ByteArray) := by kernel_rfl
  have ra2 : parseE (⟨#[92, 97, 92, 92]⟩ : ByteArray).data.toList = 0 := by kernel_rfl
  have rb2 : mk (parseB (⟨#[92, 97, 92, 92]⟩ : ByteArray).data.toList) = (⟨#[2, 97, 92, 0]⟩ : ByteArray) := by kernel_rfl
  have rc2 : textS (⟨#[2, 97, 92, 0]⟩ : ByteArray) = (⟨#[97, 92, 92, 46]⟩ : ByteArray) := by kernel_rfl
  have ra3 : parseE (⟨#[92, 48, 57, 55, 33, 126]⟩ : ByteArray).data.toList = 0 := by kernel_rfl
  have rb3 : mk (parseB (⟨#[92, 48, 57, 55, 33, 126]⟩ : ByteArray).data.toList) = (⟨#[3, 97, 33, 126, 0]⟩ : ByteArray) := by kernel_rfl
  have rc3 : textS (⟨#[3, 97, 33, 126, 0]⟩ : ByteArray) = (⟨#[97, 33, 126, 46]⟩ : ByteArray) := by kernel_rfl
  obtain ⟨D1, hD1⟩ : ∃ C, C = mk (List.replicate 63 120 ++ [46]) := ⟨_, rfl⟩
  have eD1 : (xs 63) ++ (⟨#[46]⟩ : ByteArray) = D1 := by rw [hD1]; exact mk_append _ _
  have zD1 : D1.size = 64 := by rw [hD1]; kernel_rfl
  have sD1 : D1.size ≤ 3000 := by omega
  obtain ⟨D2, hD2⟩ : ∃ C, C = mk ((List.replicate 63 120 ++ [46]) ++ List.replicate 63 120) := ⟨_, rfl⟩
  have eD2 : D1 ++ (xs 63) = D2 := by rw [hD1, hD2]; exact mk_append _ _
  have zD2 : D2.size = 127 := by rw [hD2]; kernel_rfl
  have sD2 : D2.size ≤ 3000 := by omega
  obtain ⟨D3, hD3⟩ : ∃ C, C = mk (((List.replicate 63 120 ++ [46]) ++ List.replicate 63 120) ++ [46]) := ⟨_, rfl⟩
  have eD3 : D2 ++ (⟨#[46]⟩ : ByteArray) = D3 := by rw [hD2, hD3]; exact mk_append _ _
  have zD3 : D3.size = 128 := by rw [hD3]; kernel_rfl
  have sD3 : D3.size ≤ 3000 := by omega
  obtain ⟨D4, hD4⟩ : ∃ C, C = mk ((((List.replicate 63 120 ++ [46]) ++ List.replicate 63 120) ++ [46]) ++ List.replicate 63 120) := ⟨_, rfl⟩
  have eD4 : D3 ++ (xs 63) = D4 := by rw [hD3, hD4]; exact mk_append _ _
  have zD4 : D4.size = 191 := by rw [hD4]; kernel_rfl
  have sD4 : D4.size ≤ 3000 := by omega
  obtain ⟨D5, hD5⟩ : ∃ C, C = mk (((((List.replicate 63 120 ++ [46]) ++ List.replicate 63 120) ++ [46]) ++ List.replicate 63 120) ++ [46]) := ⟨_, rfl⟩
  have eD5 : D4 ++ (⟨#[46]⟩ : ByteArray) = D5 := by rw [hD4, hD5]; exact mk_append _ _
  have zD5 : D5.size = 192 := by rw [hD5]; kernel_rfl
  have sD5 : D5.size ≤ 3000 := by omega
  obtain ⟨D6, hD6⟩ : ∃ C, C = mk ((((((List.replicate 63 120 ++ [46]) ++ List.replicate 63 120) ++ [46]) ++ List.replicate 63 120) ++ [46]) ++ List.replicate 61 120) := ⟨_, rfl⟩
  have eD6 : D5 ++ (xs 61) = D6 := by rw [hD5, hD6]; exact mk_append _ _
  have zD6 : D6.size = 253 := by rw [hD6]; kernel_rfl
  have sD6 : D6.size ≤ 3000 := by omega
  obtain ⟨D7, hD7⟩ : ∃ C, C = mk (((((((List.replicate 63 120 ++ [46]) ++ List.replicate 63 120) ++ [46]) ++ List.replicate 63 120) ++ [46]) ++ List.replicate 61 120) ++ [46]) := ⟨_, rfl⟩
  have eD7 : D6 ++ (⟨#[46]⟩ : ByteArray) = D7 := by rw [hD6, hD7]; exact mk_append _ _
  have zD7 : D7.size = 254 := by rw [hD7]; kernel_rfl
  have sD7 : D7.size ≤ 3000 := by omega
  have rd0 : parseE D6.data.toList = 0 := by rw [hD6]; kernel_rfl
  have rd1 : mk (parseB D6.data.toList) = F := by rw [hD6, HF.out]; kernel_rfl
  have rd2 : textS F = D7 := by rw [HF.out, hD7]; kernel_rfl
  have HD1 := Lib.hid hD1
  have HD2 := Lib.hid hD2
  have HD3 := Lib.hid hD3
  have HD4 := Lib.hid hD4
  have HD5 := Lib.hid hD5
  have HD6 := Lib.hid hD6
  have HD7 := Lib.hid hD7
  clear hD1 hD2 hD3 hD4 hD5 hD6 hD7
  obtain ⟨E2, hE2⟩ : ∃ C, C = mk (List.replicate 300 120 ++ [46, 46]) := ⟨_, rfl⟩
  have eE2 : (xs 300) ++ (⟨#[46, 46]⟩ : ByteArray) = E2 := by rw [hE2]; exact mk_append _ _
  have zE2 : E2.size = 302 := by rw [hE2]; kernel_rfl
  have sE2 : E2.size ≤ 3000 := by omega
  have HE2 := Lib.hid hE2
  clear hE2
  go_wp2_with (first | (go_at_call 12; refine (name_awake _).mono ?_; rintro e w' ⟨rfl, hst⟩; have hS := hS.still hst; clear hst) | (go_at_call 14; refine (many_x _ (by decide) _).mono ?_; rintro e w' ⟨rfl, hst⟩; have hS := hS.still hst; clear hst) | (go_at_call 16; refine (reads_ok _ _ _ (by first | assumption | decide) (by first | assumption | decide) (by assumption) (by assumption) (by assumption) _).mono ?_; rintro e w' ⟨rfl, hst⟩; have hS := hS.still hst; clear hst) | (go_at_call 13; refine (may_s _ (by first | assumption | decide) _).mono ?_; rintro e w' ⟨rfl, hst⟩; have hS := hS.still hst; clear hst) | (go_at_call 21; refine (same_s _ _ (by first | assumption | decide) (by first | assumption | decide) _).mono ?_; rintro e w' ⟨rfl, hst⟩; have hS := hS.still hst; clear hst) | (go_at_call 22; refine (compare_s _ _ (by first | assumption | decide) (by first | assumption | decide) _).mono ?_; rintro e w' ⟨rfl, hst⟩; have hS := hS.still hst; clear hst) | (go_at_call 23; refine (fold_s _ (by first | assumption | decide) _).mono ?_; rintro e w' ⟨rfl, hst⟩; have hS := hS.still hst; clear hst) | (go_at_call 20; refine (text_s _ (by first | assumption | decide) _).mono ?_; rintro e w' ⟨rfl, hst⟩; have hS := hS.still hst; clear hst) | (go_at_call 17; refine (parse_s _ (by first | assumption | decide) _).mono ?_; rintro e w' ⟨rfl, hst⟩; have hS := hS.still hst; clear hst))
  clear ra0 rb0 rc0 ra1 rb1 rc1 ra2 rb2 rc2 ra3 rb3 rc3 rd0 rd1 rd2
  have hBb := Blk.new w' 9 (badC E2)
  have hSb := hS.alloc (.cells (badC E2) 9)
  unfold badC at hBb hSb
  obtain ⟨KB, hKB⟩ : ∃ K, K = w'.heap.size := ⟨_, rfl⟩
  rw [← hKB] at hBb ⊢
  clear hKB
  generalize w'.alloc (.cells #[.string ⟨#[]⟩, .string ⟨#[46, 46]⟩, .string ⟨#[46, 97]⟩, .string ⟨#[97, 46, 46]⟩, .string ⟨#[97, 46, 46, 98]⟩, .string ⟨#[97, 32, 98]⟩, .string ⟨#[97, 127]⟩, .string ⟨#[195, 169]⟩, .string ⟨#[255]⟩, .string ⟨#[97, 92]⟩, .string ⟨#[97, 92, 49]⟩, .string ⟨#[97, 92, 49, 50]⟩, .string ⟨#[97, 92, 49, 50, 120]⟩, .string ⟨#[97, 92, 50, 53, 54]⟩, .string ⟨#[97, 92, 32]⟩, .string ⟨#[97, 92, 195, 169]⟩, .string E2, .string ⟨#[0]⟩] 9) = vb at *
  replace hBb : Blk vb KB 9 (badC E2) := hBb
  go_loopw [169] (fun i wr => ∃ k : Nat, k ≤ 18 ∧ i = .int .i64 k ∧ Blk wr KB 9 (badC E2) ∧ Still w wr) (fun i _ => 20 - (intOf i).toNat)
  case atStart => exact ⟨0, by omega, rfl, hBb, hSb⟩
  case round =>
    clear hBb hSb hS
    obtain ⟨k, hk, rfl, hB, hS⟩ := hrel
    by_cases hlt : k < 18
    · have i1 : (k : Int) < 18 := by omega
      have ck := (hB.cell k).trans (bad_cell E2 k hlt)
      have hp := bad_parse E2 HE2.out k hlt
      obtain ⟨x, hx⟩ : ∃ x, x = (badL E2).getD k ⟨#[]⟩ := ⟨_, rfl⟩
      rw [← hx] at ck hp
      have hps := parse_s x hp.1
      have eb : ((mk []).toList == []) = true := eq_list []
      have y3 : IntKind.i64.wrap ((k : Int) + 1) = ((k + 1 : Nat) : Int) := by rw [IntWalk.i64_in _ (by omega)]; push_cast; rfl
      rw [hp.2.1, hp.2.2] at hps
      clear hx hp
      go_wp2_with fail
      refine (hps _).mono ?_
      rintro e v ⟨rfl, hv⟩
      have hS := hS.still hv
      have hB := hB.only hv (fun h => h)
      clear hv hps ck
      go_wp2_with fail
      exact ⟨⟨k + 1, by omega, by push_cast; rfl, hB, hS⟩, by simp [intOf]; omega⟩
    · have i1 : ¬ (k : Int) < 18 := by omega
      have hD5 := HD5.out
      obtain ⟨D8, hD8⟩ : ∃ C, C = mk ((((((List.replicate 63 120 ++ [46]) ++ List.replicate 63 120) ++ [46]) ++ List.replicate 63 120) ++ [46]) ++ List.replicate 62 120) := ⟨_, rfl⟩
      have eD8 : D5 ++ (xs 62) = D8 := by rw [hD5, hD8]; exact mk_append _ _
      have zD8 : D8.size = 254 := by rw [hD8]; kernel_rfl
      have sD8 : D8.size ≤ 3000 := by omega
      obtain ⟨G1, hG1⟩ : ∃ C, C = mk ([97, 46] ++ List.replicate 64 120) := ⟨_, rfl⟩
      have eG1 : (⟨#[97, 46]⟩ : ByteArray) ++ (xs 64) = G1 := by rw [hG1]; exact mk_append _ _
      have zG1 : G1.size = 66 := by rw [hG1]; kernel_rfl
      have sG1 : G1.size ≤ 3000 := by omega
      obtain ⟨G2, hG2⟩ : ∃ C, C = mk (([97, 46] ++ List.replicate 64 120) ++ [46]) := ⟨_, rfl⟩
      have eG2 : G1 ++ (⟨#[46]⟩ : ByteArray) = G2 := by rw [hG1, hG2]; exact mk_append _ _
      have zG2 : G2.size = 67 := by rw [hG2]; kernel_rfl
      have sG2 : G2.size ≤ 3000 := by omega
      have p1 : parseE (xs 64).data.toList = 5 := by kernel_rfl
      have p2 : parseE D8.data.toList = 5 := by rw [hD8]; kernel_rfl
      have p3 : parseE G2.data.toList = 5 := by rw [hG2]; kernel_rfl
      have t1 : textS ⟨#[1]⟩ = ⟨#[]⟩ := by kernel_rfl
      have t2 : sameS ⟨#[1]⟩ ⟨#[1]⟩ = false := by kernel_rfl
      have t3 : cmpS ⟨#[]⟩ ⟨#[0]⟩ = 0 := by kernel_rfl
      have t4 : foldS ⟨#[1, 91, 0]⟩ = ⟨#[1, 91, 0]⟩ := by kernel_rfl
      have t5 : foldS ⟨#[2, 64, 90, 0]⟩ = ⟨#[2, 64, 122, 0]⟩ := by kernel_rfl
      clear hD5 hD8 hG1 hG2
      go_wp2_with (first | (go_at_call 12; refine (name_awake _).mono ?_; rintro e w' ⟨rfl, hst⟩; have hS := hS.still hst; clear hst) | (go_at_call 14; refine (many_x _ (by decide) _).mono ?_; rintro e w' ⟨rfl, hst⟩; have hS := hS.still hst; clear hst) | (go_at_call 16; refine (reads_ok _ _ _ (by first | assumption | decide) (by first | assumption | decide) (by assumption) (by assumption) (by assumption) _).mono ?_; rintro e w' ⟨rfl, hst⟩; have hS := hS.still hst; clear hst) | (go_at_call 13; refine (may_s _ (by first | assumption | decide) _).mono ?_; rintro e w' ⟨rfl, hst⟩; have hS := hS.still hst; clear hst) | (go_at_call 21; refine (same_s _ _ (by first | assumption | decide) (by first | assumption | decide) _).mono ?_; rintro e w' ⟨rfl, hst⟩; have hS := hS.still hst; clear hst) | (go_at_call 22; refine (compare_s _ _ (by first | assumption | decide) (by first | assumption | decide) _).mono ?_; rintro e w' ⟨rfl, hst⟩; have hS := hS.still hst; clear hst) | (go_at_call 23; refine (fold_s _ (by first | assumption | decide) _).mono ?_; rintro e w' ⟨rfl, hst⟩; have hS := hS.still hst; clear hst) | (go_at_call 20; refine (text_s _ (by first | assumption | decide) _).mono ?_; rintro e w' ⟨rfl, hst⟩; have hS := hS.still hst; clear hst) | (go_at_call 17; refine (parse_s _ (by first | assumption | decide) _).mono ?_; rintro e w' ⟨rfl, hst⟩; have hS := hS.still hst; clear hst))
      refine (parent_root _).mono ?_
      rintro e va ⟨rfl, ha⟩
      have hS := hS.still ha
      clear ha
      go_wp2_with (first | (go_at_call 12; refine (name_awake _).mono ?_; rintro e w' ⟨rfl, hst⟩; have hS := hS.still hst; clear hst) | (go_at_call 14; refine (many_x _ (by decide) _).mono ?_; rintro e w' ⟨rfl, hst⟩; have hS := hS.still hst; clear hst) | (go_at_call 16; refine (reads_ok _ _ _ (by first | assumption | decide) (by first | assumption | decide) (by assumption) (by assumption) (by assumption) _).mono ?_; rintro e w' ⟨rfl, hst⟩; have hS := hS.still hst; clear hst) | (go_at_call 13; refine (may_s _ (by first | assumption | decide) _).mono ?_; rintro e w' ⟨rfl, hst⟩; have hS := hS.still hst; clear hst) | (go_at_call 21; refine (same_s _ _ (by first | assumption | decide) (by first | assumption | decide) _).mono ?_; rintro e w' ⟨rfl, hst⟩; have hS := hS.still hst; clear hst) | (go_at_call 22; refine (compare_s _ _ (by first | assumption | decide) (by first | assumption | decide) _).mono ?_; rintro e w' ⟨rfl, hst⟩; have hS := hS.still hst; clear hst) | (go_at_call 23; refine (fold_s _ (by first | assumption | decide) _).mono ?_; rintro e w' ⟨rfl, hst⟩; have hS := hS.still hst; clear hst) | (go_at_call 20; refine (text_s _ (by first | assumption | decide) _).mono ?_; rintro e w' ⟨rfl, hst⟩; have hS := hS.still hst; clear hst) | (go_at_call 17; refine (parse_s _ (by first | assumption | decide) _).mono ?_; rintro e w' ⟨rfl, hst⟩; have hS := hS.still hst; clear hst))
      refine (labels_any [] okL.nil _).mono ?_
      rintro e vb' ⟨A, c, rfl, -, hb⟩
      have hS := hS.still hb
      clear hb
      go_wp2_with (first | (go_at_call 12; refine (name_awake _).mono ?_; rintro e w' ⟨rfl, hst⟩; have hS := hS.still hst; clear hst) | (go_at_call 14; refine (many_x _ (by decide) _).mono ?_; rintro e w' ⟨rfl, hst⟩; have hS := hS.still hst; clear hst) | (go_at_call 16; refine (reads_ok _ _ _ (by first | assumption | decide) (by first | assumption | decide) (by assumption) (by assumption) (by assumption) _).mono ?_; rintro e w' ⟨rfl, hst⟩; have hS := hS.still hst; clear hst) | (go_at_call 13; refine (may_s _ (by first | assumption | decide) _).mono ?_; rintro e w' ⟨rfl, hst⟩; have hS := hS.still hst; clear hst) | (go_at_call 21; refine (same_s _ _ (by first | assumption | decide) (by first | assumption | decide) _).mono ?_; rintro e w' ⟨rfl, hst⟩; have hS := hS.still hst; clear hst) | (go_at_call 22; refine (compare_s _ _ (by first | assumption | decide) (by first | assumption | decide) _).mono ?_; rintro e w' ⟨rfl, hst⟩; have hS := hS.still hst; clear hst) | (go_at_call 23; refine (fold_s _ (by first | assumption | decide) _).mono ?_; rintro e w' ⟨rfl, hst⟩; have hS := hS.still hst; clear hst) | (go_at_call 20; refine (text_s _ (by first | assumption | decide) _).mono ?_; rintro e w' ⟨rfl, hst⟩; have hS := hS.still hst; clear hst) | (go_at_call 17; refine (parse_s _ (by first | assumption | decide) _).mono ?_; rintro e w' ⟨rfl, hst⟩; have hS := hS.still hst; clear hst))
      go_ret
      exact ⟨rfl, hS⟩
end Go.Proofs.Ytjenabcjikdnaaa
