/-
  Package name: Text, of any bytes.
-/
import Derived.Test.YtjenabcjikdnaaaNameText
namespace Go.Proofs.Ytjenabcjikdnaaa
open Go.RowKit
set_option linter.unusedVariables false
set_option linter.unusedSimpArgs false

theorem Bld.only {w w' : World} {b base : Nat} {bs : List UInt8} (h : Bld w b base bs) (ho : Still w w') : Bld w' b base bs := by
  obtain ⟨h1, h2, p, v, hp, hB, hown⟩ := h
  exact ⟨h1, Nat.le_trans h2 ho.size, p, v, hp, hB.only ho (fun h => h), own_only hown ho (fun _ _ h => h)⟩
theorem Bld.is {w : World} {b base : Nat} {bs : List UInt8} (h : Bld w b base bs) : Lib.IsBuilder 51 5 b b (Lib.byteCells bs) w := by
  obtain ⟨h1, h2, p, v, hp, hB, hown⟩ := h
  have hb : Lib.byteCells bs = bv bs := by unfold Lib.byteCells bv; rfl
  have hat : ∀ q : Value, q = p → Lib.BuilderAt 51 5 b b q (Lib.byteCells bs) w := by
    rintro q rfl
    refine ⟨Nat.le_refl _, v, hB, ?_, own_blk_ne hown hB (by decide)⟩
    rw [hb, bv_length]
    exact own_base hown (by omega)
  rcases hp with rfl | rfl
  · exact .inl (hat _ rfl)
  · exact .inr (hat _ rfl)
theorem Bld.new_ (w w2 : World) (h : Still (w.alloc (.cells #[.pointer none, .slice none 0 0] 51)) w2) : Bld w2 w.heap.size w2.heap.size [] := by
  have hs := h.size
  have hz : (w.alloc (.cells #[.pointer none, .slice none 0 0] 51)).heap.size = w.heap.size + 1 := by simp
  refine ⟨by omega, Nat.le_refl _, _, _, .inl rfl, (Blk.new w 51 #[.pointer none, .slice none 0 0]).only h (fun h => h), World.ownsRow_nil _ _ _ _⟩

set_option maxRecDepth 1000000 in
set_option maxHeartbeats 1600000 in
theorem text_no (s : ByteArray) (hs : s.size ≤ maxLen) (hm : mayN s.data.toList = false) (w : World) :
    Calls Try.prog 20 #[.string s] w fun e w' => e = .returned (.string (mk [])) ∧ Still w w' := by
  have hne : (s.toList == [0]) = false := not_list (l := [0]) (by
    rintro rfl
    rw [show mayN (mk [0]).data.toList = true from may_root] at hm
    cases hm)
  go_enter Try.func20, Try.ntmps20
  go_wp2_with fail
  refine (labels_no s hs hm _).mono ?_
  rintro e w2 ⟨rfl, h2⟩
  have hb := Bld.new_ w w2 h2
  have hst := (Still.new w (.cells #[.pointer none, .slice none 0 0] 51)).still h2
  clear h2
  go_wp2_with fail
  refine wp_loop_rounds 2 ?_
  rw [rounds_succ]
  go_wp2_with fail
  refine (string_any w.heap.size w.heap.size [] w2 hb.is (by have := hst.size; omega)).mono ?_
  rintro e w3 ⟨rfl, h3⟩
  have hfin := hst.below h3 (fun k hk => .inr hk)
  go_wp2_with fail
  go_ret
  exact ⟨rfl, hfin⟩
set_option maxRecDepth 1000000 in
set_option maxHeartbeats 1600000 in
theorem text_root (w : World) :
    Calls Try.prog 20 #[.string (mk [0])] w fun e w' => e = .returned (.string (mk [46])) ∧ Still w w' := by
  have e1 : mk [0] = ⟨#[0]⟩ := rfl
  go_enter Try.func20, Try.ntmps20
  go_wp2_with fail
  go_ret
  exact ⟨rfl, Only.refl _ _⟩
theorem take_snoc {α β : Type} (f : α → List β) (l : List α) (k : Nat) (h : k < l.length) : (l.take (k + 1)).flatMap f = (l.take k).flatMap f ++ f l[k] := by
  rw [List.take_add_one, List.flatMap_append, List.getElem?_eq_getElem h]
  simp
theorem flat_take (x : Lab) (j : Nat) : ((x.take j).flatMap esc).length ≤ 4 * x.length := by
  have h1 := flat_len (x.take j)
  have h2 : (x.take j).length ≤ x.length := by rw [List.length_take]; omega
  omega
theorem sz_take : ∀ (L : List Lab) (k : Nat), sz (L.take k) ≤ sz L
  | [], k => by simp [sz]
  | x :: r, 0 => by simp [sz]
  | x :: r, k + 1 => by rw [List.take_succ_cons]; simp only [sz]; have := sz_take r k; omega
theorem text_take (L : List Lab) (k : Nat) : ((L.take k).flatMap labT).length ≤ 4 * sz L := by
  have h1 := text_len (L.take k)
  have h2 := sz_take L k
  omega

set_option maxRecDepth 1000000 in
set_option maxHeartbeats 3200000 in
theorem text_any (L : List Lab) (h : okL L) (w : World) :
    Calls Try.prog 20 #[.string (mk (enc L))] w fun e w' => e = .returned (.string (mk (textL L))) ∧ Still w w' := by
  cases L with
  | nil => exact text_root w
  | cons x0 r0 =>
  have hne := not_list (enc_parts x0 r0 h).choose_spec.2.2.2.2.2
  have hlen := h.len
  have hsz := h.2
  have HO : Hid (∀ k (hk : k < (x0 :: r0).length), okLab (x0 :: r0)[k]) := Lib.hid (fun k hk => h.1 _ (List.getElem_mem hk))
  have ht : textL (x0 :: r0) = (x0 :: r0).flatMap labT := by unfold textL; rw [if_neg (by simp)]
  rw [ht]
  have hlab := labels_any (x0 :: r0) h
  have HL0 : 0 < (x0 :: r0).length := by simp
  generalize mk (enc (x0 :: r0)) = s at *
  clear h ht
  generalize (x0 :: r0) = L at *
  go_enter Try.func20, Try.ntmps20
  go_wp2_with fail
  refine (hlab _).mono ?_
  rintro e w2 ⟨A, c, rfl, hown, h2⟩
  have hb := Bld.new_ w w2 h2
  have hst := (Still.new w (.cells #[.pointer none, .slice none 0 0] 51)).still h2
  have hz : (w.alloc (.cells #[.pointer none, .slice none 0 0] 51)).heap.size = w.heap.size + 1 := by simp
  rw [hz] at hown
  obtain ⟨g, rfl, g1, g2, g3, g4, hc⟩ := row_at hown HL0
  obtain ⟨K, hK⟩ : ∃ K, K = w.heap.size := ⟨_, rfl⟩
  obtain ⟨N, hN⟩ : ∃ N, N = w2.heap.size := ⟨_, rfl⟩
  rw [← hK] at hb g2 ⊢
  rw [← hN] at hb g1
  have HK := Lib.hid hK
  have HN := Lib.hid hN
  have HC := Lib.hid hc
  clear h2 hz hown hlab hc hK hN hne HL0
  go_wp2_with fail
  go_loopw [12] (fun i wr => ∃ k : Nat, k ≤ L.length ∧ i = .int .i64 k ∧ Bld wr K N ((L.take k).flatMap labT) ∧ Only (fun z => z = K ∨ N ≤ z) w2 wr) (fun i _ => L.length - (intOf i).toNat)
  case atStart => exact ⟨0, by omega, rfl, hb, Only.refl _ _⟩
  case round =>
    clear hb
    obtain ⟨k, hk, rfl, hb, ho⟩ := hrel
    by_cases hlt : k < L.length
    · have i1 : (k : Int) < (L.length : Int) := by omega
      have hcell := ho.cell_some (p := ⟨g, k, none⟩) (by show ¬ (g = K ∨ N ≤ g); omega) (HC.out k hlt)
      have hsn := take_snoc labT L k hlt
      have hxl := (HO.out k hlt).2
      have htl := text_take L k
      obtain ⟨x, hx⟩ : ∃ x, x = L[k] := ⟨_, rfl⟩
      rw [← hx] at hcell hsn hxl
      have HS := Lib.hid hsn
      have hxs := mk_size x
      clear hx hsn
      obtain ⟨P, hP⟩ : ∃ P, P = (L.take k).flatMap labT := ⟨_, rfl⟩
      rw [← hP] at hb htl HS
      clear hP
      go_wp2_with fail
      go_loopw [18] (fun i wr => ∃ j : Nat, j ≤ x.length ∧ i = .int .i64 j ∧ Bld wr K N (P ++ (x.take j).flatMap esc) ∧ Only (fun z => z = K ∨ N ≤ z) w2 wr) (fun i _ => x.length - (intOf i).toNat)
      case atStart => exact ⟨0, by omega, rfl, by simpa using hb, ho⟩
      case round =>
        clear hb ho hcell
        obtain ⟨j, hj, rfl, hb, ho⟩ := hrel
        by_cases hjl : j < x.length
        · have j1 : (j : Int) < (x.length : Int) := by omega
          have j2 : j < (mk x).size := by rw [mk_size]; exact hjl
          have hjn := take_snoc esc x j hjl
          have hfl := flat_take x j
          have HJ := Lib.hid hjn
          have hgt : (mk x)[j] = x[j] := mk_get j2
          have i2 : IntKind.i64.wrap ((j : Int) + 1) = ((j + 1 : Nat) : Int) := by rw [IntWalk.i64_in _ (by omega)]; push_cast; rfl
          clear hjn
          go_wp2_with fail
          refine (putEsc_any K N _ _ (by rw [List.length_append]; omega) wr hb).mono ?_
          rintro e w4 ⟨rfl, hb4, ho4⟩
          have hof := ho.trans ho4 (fun _ _ h => h)
          have hb5 : Bld w4 K N (P ++ (x.take (j + 1)).flatMap esc) := by
            have e := HJ.out
            rw [e, ← List.append_assoc]
            exact hb4
          clear hb ho ho4 hb4
          go_wp2_with fail
          exact ⟨⟨j + 1, by omega, by push_cast; rfl, hb5, hof⟩, by simp [intOf]; omega⟩
        · have j1 : ¬ (j : Int) < (x.length : Int) := by omega
          rw [List.take_of_length_le (by omega)] at hb
          have hfx := flat_len x
          have i2 : IntKind.i64.wrap ((k : Int) + 1) = ((k + 1 : Nat) : Int) := by rw [IntWalk.i64_in _ (by omega)]; push_cast; rfl
          go_wp2_with fail
          refine (put_any K N _ 46 46 (by rfl) (by rw [List.length_append]; omega) wr hb).mono ?_
          rintro e w4 ⟨rfl, hb4, ho4⟩
          have hof := ho.trans ho4 (fun _ _ h => h)
          have hb5 : Bld w4 K N ((L.take (k + 1)).flatMap labT) := by
            rw [HS.out]
            unfold labT
            rw [← List.append_assoc]
            exact hb4
          clear hb ho ho4 hb4
          go_wp2_with fail
          exact ⟨⟨k + 1, by omega, by push_cast; rfl, hb5, hof⟩, by simp [intOf]; omega⟩
    · have i1 : ¬ (k : Int) < (L.length : Int) := by omega
      rw [List.take_of_length_le (by omega)] at hb
      go_wp2_with fail
      refine (string_any K K _ wr hb.is (by have := ho.size; have := HN.out; have := hst.size; have := HK.out; omega)).mono ?_
      rintro e w3 ⟨rfl, h3⟩
      have hst3 := (hst.trans ho (fun i hi e => by
        have e' : i = K ∨ N ≤ i := e
        have := HN.out
        have := hst.size
        have := HK.out
        omega)).below h3 (fun k hk => .inr (by have := HK.out; omega))
      go_wp2_with fail
      go_ret
      exact ⟨rfl, hst3⟩
end Go.Proofs.Ytjenabcjikdnaaa
