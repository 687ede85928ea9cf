/-
  The reference of names: Fold, Parent, Same, Within.
-/
import Derived.Test.YtinjfongndlpgaaZRef2
namespace Go.Proofs.Ytinjfongndlpgaa
open Go.RowKit
set_option linter.unusedVariables false
set_option linter.unusedSimpArgs false

theorem row_at {w : World} {base n c : Nat} {A : Option Addr} {L : List Lab} (h : w.ownsRow base 9 1 (.slice A n c) n (sv L)) (hn : 0 < n) : ∃ g, A = some ⟨g, 0, none⟩ ∧ g < w.heap.size ∧ base ≤ g ∧ n ≤ c ∧ c ≤ maxLen ∧ ∀ k (hk : k < L.length), w.cell? ⟨g, k, none⟩ = some (.string (mk L[k])) := by
  have h0 := h
  rcases h.2 with ⟨hv, h1⟩ | ⟨g, cap, cur, hv, hb, hh, hnc, hcm, _⟩
  · omega
  · injection hv with hA hn' hc
    subst hA
    refine ⟨g, rfl, (Array.getElem?_eq_some_iff.1 hh).1, hb, by omega, by omega, fun k hk => ?_⟩
    have := h0.cells (g := g) rfl k (.string (mk L[k])) (by unfold sv; rw [List.getElem?_map, List.getElem?_eq_getElem hk]; rfl)
    rw [show (⟨g, 0, none⟩ : Addr).add k = ⟨g, k, none⟩ by unfold Addr.add; split <;> simp_all] at this
    exact this
theorem fold_take (L : List Lab) (k : Nat) (h : k < L.length) : fold (L.take (k + 1)) = fold (L.take k) ++ [L[k].map low] := by
  rw [List.take_add_one, List.getElem?_eq_getElem h]
  unfold fold
  rw [List.map_append]; rfl
theorem okL.lab {L : List Lab} (h : okL L) (k : Nat) (hk : k < L.length) : (L[k]).length ≤ 63 := (h.1 _ (List.getElem_mem hk)).2

set_option maxRecDepth 1000000 in
set_option maxHeartbeats 3200000 in
theorem rfold_any (s : ByteArray) (hs : s.size ≤ 30000) (w : World) :
    Calls Try.prog 23 #[.string s] w fun e w' => e = .returned (.string (foldS s)) ∧ Still w w' := by
  obtain ⟨i0, hi, hz0, hz1, hz2⟩ := info_parts info_str
  go_enter Try.func23, Try.ntmps23
  go_wp2_with fail
  refine (rlabels_any s hs w).mono ?_
  rintro e w2 (⟨hm, rfl, h2⟩ | ⟨L, A, c, hm, rfl, hown, h2⟩)
  · have hf : Hid (foldS s = mk []) := Lib.hid (foldS_no hm.out)
    clear hm
    go_wp2_with fail
    go_ret
    exact ⟨by rw [hf.out]; rfl, h2⟩
  · have hf : Hid (foldS s = mk (enc (fold L))) := Lib.hid (by rw [hm.out.2]; exact foldS_enc hm.out.1)
    have hl := hm.out.1.len
    have hLab := Lib.hid (fun k hk => hm.out.1.lab k hk)
    have hsf : Hid (sz (fold L) ≤ 254) := Lib.hid (by rw [sz_fold]; have := hm.out.1.2; omega)
    have hrd := Reads.of_own hown
    have hsz2 := h2.size
    clear hm hown
    go_wp2_with fail
    go_loopw [5, 6] (fun i5 i wr => ∃ (k : Nat) (B : Option Addr) (cB : Nat), k ≤ L.length ∧ i5 = .slice B k cB ∧ i = .int .i64 k ∧ wr.ownsRow w2.heap.size 9 1 (.slice B k cB) k (sv (fold (L.take k))) ∧ Still w2 wr) (fun _ i _ => L.length - (intOf i).toNat)
    case atStart => exact ⟨0, none, 0, by omega, rfl, rfl, World.ownsRow_nil _ _ _ _, Only.refl _ _⟩
    case round =>
      obtain ⟨k, B, cB, hk, rfl, rfl, hown, hst⟩ := hrel
      have hsz := hst.size
      by_cases hlt : k < L.length
      · have i1 : (k : Int) < (L.length : Int) := by omega
        obtain ⟨ad, hA, hab, ca⟩ := read_at hrd (k := k) hlt hlt
        subst hA
        have ca := hst.cell_some (fun h => h) ca
        have hft := fold_take L k hlt
        have hxl := hLab.out k hlt
        obtain ⟨x, hx⟩ : ∃ x, x = L[k] := ⟨_, rfl⟩
        rw [← hx] at ca hft hxl
        have HF := Lib.hid hft
        have i2 : IntKind.i64.wrap ((k : Int) + 1) = ((k + 1 : Nat) : Int) := by rw [IntWalk.i64_in _ (by omega)]; push_cast; rfl
        clear hx hft
        go_wp2_with fail
        refine (low_any (mk x) (by rw [mk_size]; omega) wr).mono ?_
        rintro e w3 ⟨rfl, h3⟩
        rw [mk_list]
        have hown := own_only hown h3 (fun _ _ h => h)
        have hst := hst.still h3
        have hsz3 := hst.size
        obtain ⟨y, hy⟩ : ∃ y, y = x.map low := ⟨_, rfl⟩
        rw [← hy] at HF ⊢
        have hrd3 := Reads.of_own (World.ownsRow_lit (e := 9) (size := 1) (base := 0) w3 #[.string (mk y)] 1 (Nat.zero_le _) (by unfold maxLen; omega) rfl)
        have hp1 := hown.alloc (.cells #[.string (mk y)] 9)
        have hst1 := hst.alloc (.cells #[.string (mk y)] 9)
        clear hy h3 hown hst ca
        go_wp2_with (at_builtin; refine wpList_append_any _ rfl (.tmp 20) (.tmp 26) 23 rfl w2.heap.size 9 i0 (.string ⟨#[]⟩) 1 16 Try.underlying23 hi hz0 hz1 hz2 rfl (by decide) _ _ _ rfl hp1 _ (some _) 1 1 [.string (mk y)] rfl hrd3 (by first | rfl | exact sv_one [y]) (by unfold maxLen; omega) (by omega) (by first | (simp; omega) | omega) ?_)
        intro v' wg hown' hgrow hblk
        obtain ⟨A', c', hv⟩ := own_shape hown'
        subst hv
        have hog := hst1.grown hgrow (fun k hk => .inr (hp1.lt k hk).1)
        rw [show sv (fold (L.take k)) ++ [Value.string (mk y)] = sv (fold (L.take (k + 1))) by rw [HF.out, sv_append]; rfl] at hown'
        clear hgrow hblk hp1 hrd3 hst1
        go_wp2_with fail
        exact ⟨⟨k + 1, A', c', by omega, rfl, by push_cast; rfl, hown', hog⟩, by simp [intOf]; omega⟩
      · have i1 : ¬ (k : Int) < (L.length : Int) := by omega
        obtain rfl : k = L.length := by omega
        rw [List.take_of_length_le (Nat.le_refl _)] at hown
        have hrf := Reads.of_own hown
        clear hown
        go_wp2_with fail
        refine (bytes_any B L.length cB (fold L) wr hrf (by have := hsf.out; omega) (by omega)).mono ?_
        rintro e w4 ⟨rfl, h4⟩
        have hfin := (h2.still hst).still h4
        go_wp2_with fail
        go_ret
        exact ⟨by rw [hf.out]; rfl, hfin⟩

/-- What Parent says. -/
def parB (s : ByteArray) : ByteArray := match labs s with
  | _ :: r => if mayN s.data.toList = true then mk (enc r) else mk []
  | [] => mk []
def parI (s : ByteArray) : Bool := mayN s.data.toList && !(labs s).isEmpty
theorem par_no {s : ByteArray} (h : mayN s.data.toList = false) : parB s = mk [] ∧ parI s = false := by
  unfold parB parI
  rw [h]
  refine ⟨?_, rfl⟩
  cases labs s <;> simp
theorem par_root : parB (mk (enc [])) = mk [] ∧ parI (mk (enc [])) = false := by
  unfold parB parI
  rw [labs_enc okL.nil]
  exact ⟨rfl, by simp⟩
theorem par_up {x : Lab} {r : List Lab} (h : okL (x :: r)) : parB (mk (enc (x :: r))) = mk (enc r) ∧ parI (mk (enc (x :: r))) = true := by
  unfold parB parI
  rw [labs_enc h, may_b h]
  exact ⟨by simp, rfl⟩
theorem parent_s (s : ByteArray) (hs : s.size ≤ 30000) (w : World) : Calls Try.prog 25 #[.string s] w fun e w' => e = .returned (.tuple #[.string (parB s), .bool (parI s)]) ∧ Still w w' := by
  rcases hm : mayN s.data.toList with _ | _
  · rw [(par_no hm).1, (par_no hm).2]
    exact parent_no s (by unfold maxLen; omega) hm w
  · obtain ⟨L, hL, rfl⟩ := may_mk hm
    cases L with
    | nil => rw [par_root.1, par_root.2]; exact parent_root w
    | cons x r => rw [(par_up hL).1, (par_up hL).2]; exact parent_up x r hL w

set_option maxRecDepth 1000000 in
set_option maxHeartbeats 3200000 in
theorem rparent_any (s : ByteArray) (hs : s.size ≤ 30000) (w : World) :
    Calls Try.prog 31 #[.string s] w fun e w' => e = .returned (.tuple #[.string (parB s), .bool (parI s)]) ∧ Still w w' := by
  go_enter Try.func31, Try.ntmps31
  go_wp2_with fail
  refine (rlabels_any s hs w).mono ?_
  rintro e w2 (⟨hm, rfl, h2⟩ | ⟨L, A, c, hm, rfl, hown, h2⟩)
  · have hf := Lib.hid (par_no hm.out)
    clear hm
    go_wp2_with fail
    go_ret2
    exact ⟨by rw [hf.out.1, hf.out.2]; rfl, h2⟩
  · cases L with
    | nil =>
        have hf := Lib.hid par_root
        have hs' := Lib.hid hm.out.2
        clear hm hown
        go_wp2_with fail
        go_ret2
        exact ⟨by rw [hs'.out, hf.out.1, hf.out.2]; rfl, h2⟩
    | cons x r =>
        have hf := Lib.hid (par_up hm.out.1)
        have hs' := Lib.hid hm.out.2
        have hl := hm.out.1.len
        have hsr : Hid (sz r ≤ 254) := Lib.hid (by have := hm.out.1.tail.2; omega)
        obtain ⟨g, rfl, g1, g2, g3, g4, hc⟩ := row_at hown (by simp)
        have hrd := Reads.of_own hown
        have hcut := hrd.cut (k := 1) (cap := c) (by simp) g3
        have hn : (x :: r).length = r.length + 1 := rfl
        rw [hn] at hcut g3 ⊢
        rw [show (sv (x :: r)).drop (1 * 1) = sv r from rfl, show r.length + 1 - 1 = r.length by omega] at hcut
        have hb1 := hsr.out
        have hlr : r.length ≤ 127 := by simp at hl; omega
        clear hm hc hrd hown
        by_cases hc1 : c = 1
        · subst hc1
          rw [if_pos rfl] at hcut
          obtain rfl : r = [] := List.eq_nil_of_length_eq_zero (by omega)
          have hcut2 : Reads w2 w2.heap.size 1 (some ⟨g, 0, none⟩) 0 (sv []) := hcut
          clear hcut g3
          go_wp2_with fail
          refine (bytes_any (some ⟨g, 0, none⟩) 0 0 [] w2 hcut2 (by decide) (by omega)).mono ?_
          rintro e w4 ⟨rfl, h4⟩
          have hfin := h2.still h4
          clear hcut2 h4
          go_wp2_with fail
          go_ret2
          exact ⟨by rw [hs'.out, hf.out.1, hf.out.2]; rfl, hfin⟩
        · rw [if_neg hc1] at hcut
          have hcut2 : Reads w2 w2.heap.size 1 (some ⟨g, 1, none⟩) r.length (sv r) := hcut
          clear hcut
          go_wp2_with fail
          refine (bytes_any (some ⟨g, 1, none⟩) r.length (c - 1) r w2 hcut2 (by omega) (by omega)).mono ?_
          rintro e w4 ⟨rfl, h4⟩
          have hfin := h2.still h4
          clear hcut2 h4
          go_wp2_with fail
          go_ret2
          exact ⟨by rw [hs'.out, hf.out.1, hf.out.2]; rfl, hfin⟩

set_option maxRecDepth 1000000 in
set_option maxHeartbeats 3200000 in
theorem rsame_any (a b : ByteArray) (ha : a.size ≤ 30000) (hb : b.size ≤ 30000) (w : World) :
    Calls Try.prog 30 #[.string a, .string b] w fun e w' => e = .returned (.bool (sameS a b)) ∧ Still w w' := by
  have hS : Still w w := Only.refl _ _
  go_enter Try.func30, Try.ntmps30
  rcases hma : mayN a.data.toList with _ | _
  · have H := Lib.hid (sameS_l (b := b) hma)
    go_wp2_with fail
    refine (rmay_any a ha w).mono ?_
    rintro e w' ⟨rfl, h1⟩
    rw [hma]
    go_wp2_with fail
    go_ret
    exact ⟨ret_bool H.out, h1⟩
  · go_wp2_with fail
    refine (rmay_any a ha w).mono ?_
    rintro e w1 ⟨rfl, h1⟩
    rw [hma]
    rcases hmb : mayN b.data.toList with _ | _
    · have H := Lib.hid (sameS_r (a := a) hmb)
      go_wp2_with fail
      refine (rmay_any b hb _).mono ?_
      rintro e w2 ⟨rfl, h2⟩
      rw [hmb]
      have h2 := h1.still h2
      go_wp2_with fail
      go_ret
      exact ⟨ret_bool H.out, h2⟩
    · have H := Lib.hid (sameS_b hma hmb)
      go_wp2_with fail
      refine (rmay_any b hb _).mono ?_
      rintro e w2 ⟨rfl, h2⟩
      rw [hmb]
      have h2 := h1.still h2
      go_wp2_with fail
      refine (rfold_any a ha _).mono ?_
      rintro e w3 ⟨rfl, h3⟩
      have h3 := h2.still h3
      go_wp2_with fail
      refine (rfold_any b hb _).mono ?_
      rintro e w4 ⟨rfl, h4⟩
      have h4 := h3.still h4
      go_wp2_with fail
      go_ret
      exact ⟨ret_bool (H.out), h4⟩

theorem enc_30_ {L : List Lab} (h : okL L) : (mk (enc L)).size ≤ 30000 := by rw [mk_size, enc_len]; have := h.2; omega
set_option maxRecDepth 1000000 in
set_option maxHeartbeats 3200000 in
theorem rwithin_any (a b : ByteArray) (ha : a.size ≤ 30000) (hb : b.size ≤ 30000) (w : World) :
    Calls Try.prog 27 #[.string a, .string b] w fun e w' => e = .returned (.bool (inS a b)) ∧ Still w w' := by
  go_enter Try.func27, Try.ntmps27
  rcases hma : mayN a.data.toList with _ | _
  · have H : Hid (false = inS a b) := Lib.hid (inS_no (.inl hma)).symm
    go_wp2_with fail
    refine (rmay_any a ha w).mono ?_
    rintro e w' ⟨rfl, h1⟩
    rw [hma]
    go_wp2_with fail
    go_ret
    exact ⟨ret_bool H.out, h1⟩
  · go_wp2_with fail
    refine (rmay_any a ha w).mono ?_
    rintro e w1 ⟨rfl, h1⟩
    rw [hma]
    rcases hmb : mayN b.data.toList with _ | _
    · have H : Hid (false = inS a b) := Lib.hid (inS_no (.inr hmb)).symm
      go_wp2_with fail
      refine (rmay_any b hb _).mono ?_
      rintro e w2 ⟨rfl, h2⟩
      rw [hmb]
      have h2 := h1.still h2
      go_wp2_with fail
      go_ret
      exact ⟨ret_bool H.out, h2⟩
    · go_wp2_with fail
      refine (rmay_any b hb _).mono ?_
      rintro e w2 ⟨rfl, h2⟩
      rw [hmb]
      have h2 := h1.still h2
      obtain ⟨L, hL, rfl⟩ := may_mk hma
      obtain ⟨Z, hZ, rfl⟩ := may_mk hmb
      obtain ⟨ri, hri⟩ : ∃ r, r = inS (mk (enc L)) (mk (enc Z)) := ⟨_, rfl⟩
      have HRI := Lib.hid hri
      rw [inS_enc hL hZ] at hri
      have HI := Lib.hid hri
      have HL := Lib.hid hL
      have HZ := Lib.hid hZ
      clear hri hL hZ hma hmb h1
      obtain ⟨z, hz⟩ : ∃ z, z = mk (enc Z) := ⟨_, rfl⟩
      rw [← hz] at hb ⊢
      have Hz := Lib.hid hz
      clear hz
      go_wp2_with fail
      go_loopw [0] (fun i0 wr => ∃ R : List Lab, i0 = .string (mk (enc R)) ∧ Hid (okL R) ∧ Hid (ri = inN R Z) ∧ Still w wr) (fun i0 _ => strLen i0)
      case atStart => exact ⟨L, rfl, HL, HI, h2⟩
      case round =>
        clear h2 HI
        obtain ⟨R, rfl, hR, hin, hst⟩ := hrel
        have hsR := enc_30_ hR.out
        go_wp2_with fail
        refine (rsame_any _ z hsR hb wr).mono ?_
        rintro e w3 ⟨rfl, h3⟩
        have hst := hst.still h3
        rw [show sameS (mk (enc R)) z = decide (fold R = fold Z) by rw [Hz.out]; exact sameS_enc hR.out HZ.out]
        by_cases e : fold R = fold Z
        · have hd : decide (fold R = fold Z) = true := decide_eq_true e
          have hf : Hid (true = inS (mk (enc L)) (mk (enc Z))) := Lib.hid (by
            rw [← HRI.out, hin.out]
            symm
            apply decide_eq_true
            rw [e]
            exact List.suffix_refl _)
          rw [hd]
          clear hd
          go_wp2_with fail
          go_ret
          exact ⟨ret_bool hf.out, hst⟩
        · have hd : decide (fold R = fold Z) = false := decide_eq_false e
          rw [hd]
          clear hd
          go_wp2_with fail
          refine (rparent_any _ hsR w3).mono ?_
          rintro e' w4 ⟨rfl, h4⟩
          have hst := hst.still h4
          cases R with
          | nil =>
              have hf : Hid (false = inS (mk (enc L)) (mk (enc Z))) := Lib.hid (by
                rw [← HRI.out, hin.out]
                symm
                apply decide_eq_false
                intro h
                rw [fold_nil] at h e
                exact e (List.suffix_nil.1 h).symm)
              rw [par_root.1, par_root.2]
              go_wp2_with fail
              go_ret
              exact ⟨ret_bool hf.out, hst⟩
          | cons x r =>
              have hin2 : Hid (ri = inN r Z) := Lib.hid (by
                rw [hin.out]
                unfold inN
                rw [fold_cons] at e ⊢
                by_cases h : fold Z <:+ fold r
                · rw [decide_eq_true h, decide_eq_true (List.suffix_cons_iff.2 (.inr h))]
                · rw [decide_eq_false h, decide_eq_false (fun h' => by
                    rcases List.suffix_cons_iff.1 h' with h' | h'
                    · exact e h'.symm
                    · exact h h')])
              rw [(par_up hR.out).1, (par_up hR.out).2]
              have hR2 := Lib.hid hR.out.tail
              have hsr : (mk (enc r)).size < (mk (enc (x :: r))).size := by rw [mk_size, mk_size, enc_len, enc_len]; simp only [sz]; omega
              clear hR hin e
              go_wp2_with fail
              exact ⟨⟨r, rfl, hR2, hin2, hst⟩, by simpa [strLen] using hsr⟩
end Go.Proofs.Ytinjfongndlpgaa
