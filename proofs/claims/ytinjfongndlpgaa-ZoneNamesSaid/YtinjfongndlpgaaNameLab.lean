/-
  Package name: Parent, Labels.
-/
import Derived.Test.YtinjfongndlpgaaNameFold
namespace Go.Proofs.Ytinjfongndlpgaa
open Go.RowKit
set_option linter.unusedVariables false
set_option linter.unusedSimpArgs false

/-- What is known of the bytes of a name that is not the root. -/
theorem enc_parts (x : Lab) (r : List Lab) (h : okL (x :: r)) : ∃ h0 : 0 < (mk (enc (x :: r))).size, ((mk (enc (x :: r)))[0]).toNat = x.length ∧ 1 + x.length < (mk (enc (x :: r))).size ∧ (mk (enc (x :: r))).size ≤ 255 ∧
    (mk (enc (x :: r))).extract 1 (1 + x.length) = mk x ∧ (mk (enc (x :: r))).extract (1 + x.length) (mk (enc (x :: r))).size = mk (enc r) ∧ mk (enc (x :: r)) ≠ mk [0] := by
  have hx := h.head
  have hsz : (mk (enc (x :: r))).size = sz (x :: r) + 1 := by rw [mk_size, enc_len]
  have h2 := h.2
  have hs2 : sz (x :: r) = 1 + x.length + sz r := rfl
  refine ⟨by omega, ?_, by omega, by omega, ?_, ?_, ?_⟩
  · rw [mk_get]; exact toNat_len hx.2
  · apply ByteArray.ext
    rw [ByteArray.data_extract]
    apply Array.toList_inj.1
    rw [Array.toList_extract]
    show (List.extract (enc (x :: r)) 1 (1 + x.length)) = x
    simp [enc, List.extract]
  · rw [mk_size]
    apply ByteArray.ext
    rw [ByteArray.data_extract]
    apply Array.toList_inj.1
    rw [Array.toList_extract]
    show (List.extract (enc (x :: r)) (1 + x.length) (enc (x :: r)).length) = enc r
    simp [enc, List.extract, Nat.add_comm 1]
  · intro e
    have e1 := congrArg ByteArray.size e
    rw [hsz, mk_size] at e1
    have : [(0 : UInt8)].length = 1 := rfl
    have := hx.1
    omega
theorem not_list {S : ByteArray} {l : List UInt8} (h : S ≠ mk l) : (S.toList == l) = false := by
  cases hb : (S.toList == l) with
  | false => rfl
  | true =>
      refine absurd ?_ h
      have e := eq_of_beq hb
      rw [ByteArray.toList_eq] at e
      apply ByteArray.ext
      apply Array.toList_inj.1
      rw [e]
      rfl
theorem may_root : mayN (mk [0]).data.toList = true := may_enc (L := []) okL.nil

set_option maxRecDepth 1000000 in
set_option maxHeartbeats 1600000 in
/-- Parent of a name that is none. -/
theorem parent_no (s : ByteArray) (hs : s.size ≤ maxLen) (hm : mayN s.data.toList = false) (w : World) :
    Calls Try.prog 25 #[.string s] w fun e w' => e = .returned (.tuple #[.string (mk []), .bool false]) ∧ Still w w' := by
  go_enter Try.func25, Try.ntmps25
  go_wp2_with (go_at_call 19; refine (may_any s hs w).mono ?_; rintro e w' ⟨rfl, q, rfl⟩; rw [hm])
  go_ret2
  exact ⟨rfl, Still.quiet _ _⟩
set_option maxRecDepth 1000000 in
set_option maxHeartbeats 1600000 in
/-- .. of the root. -/
theorem parent_root (w : World) :
    Calls Try.prog 25 #[.string (mk [0])] w fun e w' => e = .returned (.tuple #[.string (mk []), .bool false]) ∧ Still w w' := by
  have e1 : mk [0] = ⟨#[0]⟩ := rfl
  go_enter Try.func25, Try.ntmps25
  go_wp2_with (go_at_call 19; refine (may_any (mk [0]) (by decide) w).mono ?_; rintro e w' ⟨rfl, q, rfl⟩; rw [may_root])
  go_ret2
  exact ⟨rfl, Still.quiet _ _⟩
set_option maxRecDepth 1000000 in
set_option maxHeartbeats 1600000 in
/-- .. of another one. -/
theorem parent_up (x : Lab) (r : List Lab) (h : okL (x :: r)) (w : World) :
    Calls Try.prog 25 #[.string (mk (enc (x :: r)))] w fun e w' => e = .returned (.tuple #[.string (mk (enc r)), .bool true]) ∧ Still w w' := by
  have hm : mayN (mk (enc (x :: r))).data.toList = true := may_enc h
  obtain ⟨h0, h1, h2, h3, h4, h5, h6⟩ := enc_parts x r h
  have h7 := not_list h6
  generalize mk (enc (x :: r)) = S at *
  clear h6
  go_enter Try.func25, Try.ntmps25
  go_wp2_with (go_at_call 19; refine (may_any S (by unfold maxLen; omega) w).mono ?_; rintro e w' ⟨rfl, q, rfl⟩; rw [hm])
  go_ret2
  exact ⟨by rw [h5]; rfl, Still.quiet _ _⟩

set_option maxRecDepth 1000000 in
set_option maxHeartbeats 1600000 in
/-- Labels of a name that is none. -/
theorem labels_no (s : ByteArray) (hs : s.size ≤ maxLen) (hm : mayN s.data.toList = false) (w : World) :
    Calls Try.prog 24 #[.string s] w fun e w' => e = .returned (.slice none 0 0) ∧ Still w w' := by
  go_enter Try.func24, Try.ntmps24
  go_wp2_with (go_at_call 19; refine (may_any s hs w).mono ?_; rintro e w' ⟨rfl, q, rfl⟩; rw [hm])
  go_ret
  exact ⟨rfl, Still.quiet _ _⟩
/-- How long a text is. -/
def strLen : Value → Nat
  | .string s => s.size
  | _ => 0
theorem eq_list (l : List UInt8) : ((mk l).toList == l) = true := by
  rw [ByteArray.toList_eq, mk_list]; exact beq_self_eq_true _

set_option maxRecDepth 1000000 in
set_option maxHeartbeats 1600000 in
theorem labels_any (L : List Lab) (h : okL L) (w : World) :
    Calls Try.prog 24 #[.string (mk (enc L))] w fun e w' => ∃ A c, e = .returned (.slice A L.length c) ∧ w'.ownsRow w.heap.size 9 1 (.slice A L.length c) L.length (sv L) ∧ Still w w' := by
  have hm : mayN (mk (enc L)).data.toList = true := may_enc h
  have hsz : (mk (enc L)).size ≤ maxLen := by rw [mk_size, enc_len]; have := h.2; unfold maxLen; omega
  obtain ⟨i0, hi, hz0, hz1, hz2⟩ := info_parts info_str
  have hl := h.len
  have H := Lib.hid h
  clear h
  go_enter Try.func24, Try.ntmps24
  go_wp2_with (go_at_call 19; refine (may_any (mk (enc L)) hsz w).mono ?_; rintro e w' ⟨rfl, q, rfl⟩; rw [hm])
  clear hm hsz
  go_loopw [0, 3] (fun i0 i3 wr => ∃ (D R : List Lab) (A : Option Addr) (c : Nat), L = D ++ R ∧ i0 = .string (mk (enc R)) ∧ i3 = .slice A D.length c ∧ wr.ownsRow w.heap.size 9 1 (.slice A D.length c) D.length (sv D) ∧ Still w wr) (fun i0 _ _ => strLen i0)
  case atStart => exact ⟨[], L, none, 0, rfl, rfl, rfl, World.ownsRow_nil _ _ _ _, Still.quiet _ _⟩
  case round =>
    obtain ⟨D, R, A, c, hLR, rfl, rfl, hown, hst⟩ := hrel
    cases R with
    | nil =>
        have h7 : ((mk (enc [])).toList == [0]) = true := eq_list [0]
        rw [List.append_nil] at hLR
        subst hLR
        go_wp2_with fail
        go_ret
        exact ⟨A, c, rfl, hown, hst⟩
    | cons x r =>
        have hok : okL (x :: r) := by
          have h := H.out
          rw [hLR] at h
          exact ⟨fun y hy => h.1 y (List.mem_append_right _ hy), by have := h.2; rw [sz_app] at this; omega⟩
        have hDl : D.length < L.length := by rw [hLR]; simp
        obtain ⟨h0, h1, h2, h3, h4, h5, h6⟩ := enc_parts x r hok
        have h7 := not_list h6
        have hsr : (mk (enc r)).size < (mk (enc (x :: r))).size := by rw [mk_size, mk_size, enc_len, enc_len]; simp only [sz]; omega
        have HLR := Lib.hid hLR
        generalize mk (enc (x :: r)) = S at *
        clear h6 hok hLR
        have hrd := Reads.of_own (World.ownsRow_lit (e := 9) (size := 1) (base := 0) wr #[.string (mk x)] 1 (Nat.zero_le _) (by unfold maxLen; omega) rfl)
        have hp1 := hown.alloc (.cells #[.string (mk x)] 9)
        have hst1 := hst.alloc (.cells #[.string (mk x)] 9)
        have hsz := hst.size
        go_wp2_with (at_builtin; refine wpList_append_any _ rfl (.tmp 14) (.tmp 18) 23 rfl w.heap.size 9 i0 (.string ⟨#[]⟩) 1 16 Try.underlying23 hi hz0 hz1 hz2 rfl (by decide) _ _ _ rfl hp1 _ (some _) 1 1 _ rfl hrd ?q1 ?q2 ?q3 ?q4 ?_)
        case q1 => first | rfl | exact sv_one [x]
        case q2 => unfold maxLen; omega
        case q3 => omega
        case q4 => first | (simp; omega) | omega
        intro v' wg hown' hgrow hblk
        obtain ⟨A', c', hv⟩ := own_shape hown'
        subst hv
        have hog := hst1.grown hgrow (fun k hk => .inr (hp1.lt k hk).1)
        rw [show sv D ++ [Value.string (mk x)] = sv (D ++ [x]) from (sv_append D [x]).symm] at hown'
        clear hgrow hblk hp1 hrd hown hst hst1
        go_wp2_with fail
        refine ⟨⟨D ++ [x], r, A', c', by rw [HLR.out]; simp, by rw [h5], by simp, by simpa using hown', hog⟩, ?_⟩
        first | (simpa [strLen] using hsr) | (simp [strLen]; omega)
end Go.Proofs.Ytinjfongndlpgaa
