/-
  Package sip: Write.
-/
import Derived.Test.YtpgebejnpncemaaSipH
namespace Go.Proofs.Ytpgebejnpncemaa
open Go.RowKit
set_option linter.unusedVariables false

def byts (s : ByteArray) : List Int := s.toList.map (fun b => (b.toNat : Int))
theorem byts_len (s : ByteArray) : (byts s).length = s.size := by
  rw [byts, List.length_map, ByteArray.toList_eq]
  rfl
theorem byts_ok (s : ByteArray) : Byts (byts s) := by
  intro x hx
  obtain ⟨b, _, rfl⟩ := List.mem_map.1 hx
  have := b.toNat_lt
  omega
theorem byts_getD (s : ByteArray) (i : Nat) (hi : i < s.size) : (byts s).getD i 0 = (s[i].toNat : Int) := by
  have h1 : i < s.toList.length := by rw [ByteArray.toList_eq]; exact hi
  rw [byts, List.getD_eq_getElem?_getD, List.getElem?_map, List.getElem?_eq_getElem h1]
  simp [ByteArray.toList_eq]
  rfl
theorem step_yes {v l : List Int} {N M : Nat} {b : Int} (hM : M = N % 8) (e : (N + 1) % 8 = 0) : (St.mk v l N).step b = ⟨mix v (num (l.set M b)), l.set M b, N + 1⟩ := by
  subst hM
  simp only [St.step, e, if_true]
theorem step_no {v l : List Int} {N M : Nat} {b : Int} (hM : M = N % 8) (e : ¬ (N + 1) % 8 = 0) : (St.mk v l N).step b = ⟨v, l.set M b, N + 1⟩ := by
  subst hM
  simp only [St.step, e, if_false]
theorem hsh_of {w : World} {g : Nat} {v l : List Int} {n : Nat} (h : Blk w g 60 (lay [.bool true] v (l.map (Value.int .u8) ++ [.int .i64 n]))) : Hsh w g ⟨v, l, n⟩ := h
theorem byts_rg (s : ByteArray) (i : Nat) : 0 ≤ (byts s).getD i 0 ∧ (byts s).getD i 0 < 256 := by
  rw [List.getD_eq_getElem?_getD]
  rcases hx : (byts s)[i]? with _ | x
  · simp
  · exact byts_ok s x (List.mem_of_getElem? hx)

set_option maxRecDepth 1000000 in
set_option maxHeartbeats 1600000 in
theorem key_any {w : World} {g : Nat} {s : St} (h : Hsh w g s) (hs : s.Ok) :
    Calls Try.prog 43 #[.pointer (some ⟨g, 0, none⟩)] w fun e w' => e = .returned (.tuple #[]) ∧ w = w' := by
  have c0 := (Blk.cell h 0).trans hcells_keyed
  go_enter Try.func43, Try.ntmps43
  go_wp2
  go_end0
  exact ⟨rfl, rfl⟩

set_option maxRecDepth 1000000 in
set_option maxHeartbeats 1600000 in
theorem Write_any {w : World} {g : Nat} {s : St} (h : Hsh w g s) (hs : s.Ok) (t : ByteArray) (hn : s.n + t.size < 1000000000) :
    Calls Try.prog 34 #[.pointer (some ⟨g, 0, none⟩), .string t] w fun e w' => e = .returned (.int .i64 0) ∧ Hsh w' g (s.eat (byts t)) ∧ Only (· = g) w w' := by
  go_enter Try.func34, Try.ntmps34
  go_wp2_with fail
  refine (key_any h hs).mono ?_
  rintro e w1 ⟨rfl, rfl⟩
  go_wp2_with fail
  have hsz := hn
  go_loopw [5, 12] (fun _ c wr => ∃ k : Nat, k ≤ t.size ∧ c = .int .i64 k ∧ Hsh wr g (s.eat ((byts t).take k)) ∧ Hid (Only (· = g) w wr)) (fun _ c _ => t.size - (intOf c).toNat)
  case atStart => exact ⟨0, by omega, rfl, h, Lib.hid (Only.refl _ _)⟩
  case round =>
    clear h
    obtain ⟨k, hk, rfl, h, ho⟩ := hrel
    by_cases hlt : k < t.size
    · have hs1 : (s.eat ((byts t).take k)).Ok := St.eat_ok hs _ (fun x hx => byts_ok t x (List.mem_of_mem_take hx))
      have hn1 : (s.eat ((byts t).take k)).n = s.n + k := by rw [St.eat_n, List.length_take, byts_len]; omega
      have hnext : s.eat ((byts t).take (k + 1)) = (s.eat ((byts t).take k)).step ((byts t).getD k 0) := by
        rw [← St.eat_snoc, List.take_add_one]
        congr 1
        congr 1
        rw [List.getD_eq_getElem?_getD, List.getElem?_eq_getElem (by rw [byts_len]; exact hlt)]
        rfl
      have hb := byts_rg t k
      have hidx : ∀ W, (Instr.index 9 (.string t) (.int .i64 k)).run Try.prog W = .ok (.int .u8 ((byts t).getD k 0)) W := fun W => by
        rw [run_index_string W _ t _ k Try.underlying9, dif_pos ⟨by omega, by omega⟩, byts_getD t k hlt]
        rfl
      obtain ⟨b, hbe⟩ : ∃ b, b = (byts t).getD k 0 := ⟨_, rfl⟩
      rw [← hbe] at hb hidx hnext
      generalize s.eat ((byts t).take k) = s1 at h hs1 hn1 hnext
      obtain ⟨v, l, N⟩ := s1
      obtain ⟨hv, hl⟩ := hs1
      have hN : N + 1 < 1000000000 := by simp at hn1; omega
      simp only at hv hl
      obtain ⟨M, hM⟩ : ∃ M, M = N % 8 := ⟨_, rfl⟩
      have hm8 : M < 8 := by omega
      have htm : (N : Int).tmod 8 = (M : Int) := by rw [Int.tmod_eq_emod_of_nonneg (by omega)]; omega
      have c13 := (Blk.cell h 13).trans (hcells_n hv hl)
      have f13 := Blk.frozen h 13
      have cl := (Blk.cell h (5 + M)).trans (hcells_l hv hl hm8)
      have fl := Blk.frozen h (5 + M)
      have Hn1 := Lib.hid hn1
      have Hbe := Lib.hid hbe
      have HM := Lib.hid hM
      have Hnext := Lib.hid hnext
      clear hn1 hbe hnext hM
      have hm8i : (M : Int) < 8 := by omega
      go_wp2_with fail
      go_still_tail 12, (by kernel_rfl)
      have h2 : Blk (wr.setCell ⟨g, 5 + M, none⟩ (.int .u8 b)) g 60 (hcells v (l.set M b) N) := by
        have := Blk.set_ h (5 + M) (.int .u8 b)
        rw [hcells_set_l hv hl hm8] at this
        exact this
      have ho2 : Only (· = g) w (wr.setCell ⟨g, 5 + M, none⟩ (.int .u8 b)) := ho.out.setCell (p := ⟨g, 5 + M, none⟩) (.inl rfl) _
      have hl2 := hl.set M hb
      have h3 : Blk ((wr.setCell ⟨g, 5 + M, none⟩ (.int .u8 b)).setCell ⟨g, 13, none⟩ (.int .i64 ((N : Int) + 1))) g 60 (hcells v (l.set M b) (N + 1)) := by
        have := Blk.set_ h2 13 (.int .i64 ((N + 1 : Nat) : Int))
        rw [hcells_set_n hv hl2] at this
        exact this
      have ho3 : Only (· = g) w ((wr.setCell ⟨g, 5 + M, none⟩ (.int .u8 b)).setCell ⟨g, 13, none⟩ (.int .i64 ((N : Int) + 1))) := ho2.setCell (p := ⟨g, 13, none⟩) (.inl rfl) _
      by_cases e : (N + 1) % 8 = 0
      · have ei : ((N : Int) + 1) % 8 = 0 := by omega
        obtain ⟨L, hL⟩ : ∃ L, L = l.set M b := ⟨_, rfl⟩
        rw [← hL] at hl2 h3
        have HL := Lib.hid hL
        have he := Lib.hid e
        clear hL e
        go_wp2_with fail
        generalize (wr.setCell ⟨g, 5 + M, none⟩ (.int .u8 b)).setCell ⟨g, 13, none⟩ (.int .i64 ((N : Int) + 1)) = w3 at *
        have h3 := h3.drew
        have ho3 := ho3.drew
        generalize w3.drew = w3 at *
        clear c13 f13 cl fl h2 ho2 h
        obtain ⟨b0, b1, b2, b3, b4, b5, b6, b7, hLe⟩ := hl2.cases
        subst hLe
        have c0 : w3.cell? ⟨g, 5, none⟩ = some (.int .u8 b0) := (h3.cell 5).trans (hcells_l hv hl2 (i := 0) (by omega))
        have c1 : w3.cell? ⟨g, 6, none⟩ = some (.int .u8 b1) := (h3.cell 6).trans (hcells_l hv hl2 (i := 1) (by omega))
        have c2 : w3.cell? ⟨g, 7, none⟩ = some (.int .u8 b2) := (h3.cell 7).trans (hcells_l hv hl2 (i := 2) (by omega))
        have c3 : w3.cell? ⟨g, 8, none⟩ = some (.int .u8 b3) := (h3.cell 8).trans (hcells_l hv hl2 (i := 3) (by omega))
        have c4 : w3.cell? ⟨g, 9, none⟩ = some (.int .u8 b4) := (h3.cell 9).trans (hcells_l hv hl2 (i := 4) (by omega))
        have c5 : w3.cell? ⟨g, 10, none⟩ = some (.int .u8 b5) := (h3.cell 10).trans (hcells_l hv hl2 (i := 5) (by omega))
        have c6 : w3.cell? ⟨g, 11, none⟩ = some (.int .u8 b6) := (h3.cell 11).trans (hcells_l hv hl2 (i := 6) (by omega))
        have c7 : w3.cell? ⟨g, 12, none⟩ = some (.int .u8 b7) := (h3.cell 12).trans (hcells_l hv hl2 (i := 7) (by omega))
        go_region_with (first
          | (go_at_call 45; refine (number_oct hl2 _).mono ?_; rintro e w5 ⟨rfl, hst⟩; have hst3 := hst; have h5 := h3.drew.only hst (fun h => h))
          | (go_at_call 44; refine (mix_blk (o := 1) (t := 60) h5 rfl hv hl2.num64).mono ?_; rintro e w6 ⟨rfl, h6, ho6⟩))
        all_goals
          go_wp2
          go_roundw
          case rel =>
            refine ⟨k + 1, by omega, by go_num, ?_, (ho3.drew.trans hst3 (fun _ _ h => h.elim)).trans ho6 (fun _ _ h => h)⟩
            rw [Hnext.out, step_yes HM.out he.out, ← HL.out]
            exact hsh_of h6
          case measure => simp [intOf]; omega
      · have ei : ¬ ((N : Int) + 1) % 8 = 0 := by omega
        have he := Lib.hid e
        clear e
        go_wp2_with fail
        go_roundw
        case rel =>
          refine ⟨k + 1, by omega, by go_num, ?_, ho3.drew⟩
          rw [Hnext.out, step_no HM.out he.out]
          exact h3.drew
        case measure => simp [intOf]; omega
    · have hkn : k = t.size := by omega
      subst hkn
      rw [List.take_of_length_le (by rw [byts_len]; exact Nat.le_refl _)] at h
      go_wp2_with fail
      go_ret
      exact ⟨rfl, h, ho.out⟩
end Go.Proofs.Ytpgebejnpncemaa
