/-
  Package comp: a step of reading: a pointer, a label.
-/
import Derived.Test.YtfhnfjfjmjopeaaDoorCompRd
namespace Go.Proofs.YtfhnfjfjmjopeaaDoor
open Go.RowKit
set_option linter.unusedVariables false
set_option linter.unusedSimpArgs false
section
variable {w w' : World} {base g cg : Nat} {m : ByteArray} {a b nx : Nat} {acc : List UInt8} {A : Option Addr} {c : Nat}
theorem shl8 {D : Nat} (h : D < 64) : wrap64 ((D : Int) * 256) = (D : Int) * 256 := IntWalk.wrap64_in _ ⟨by omega, by omega⟩
theorem or8 {D d : Nat} (h : D < 64) (hd : d < 256) : bits .or .i64 ((D : Int) * 256) (d : Int) = ((D * 256 + d : Nat) : Int) := by
  rw [bits_join .i64 63 (by decide) (fun n h0 h1 => IntWalk.i64_in _ (by omega)) 8 _ _ (by omega) (by omega) (by omega) (by omega) (by omega) (by omega)]
  omega
theorem num1 (m : ByteArray) (a : Nat) (h : a < m.size) : ∃ d : UInt8, m.data.toList[a]? = some d ∧ numAt m a 1 = d.toNat := by
  have hl : m.data.toList.length = m.size := by rw [Array.length_toList]; rfl
  refine ⟨m.data.toList[a]'(by omega), List.getElem?_eq_getElem _, ?_⟩
  unfold numAt
  have : (m.extract a (a + 1)).data.toList = [m.data.toList[a]'(by omega)] := by
    rw [ByteArray.data_extract, Array.toList_extract, List.extract_eq_take_drop, show a + 1 - a = 1 by omega, List.drop_eq_getElem_cons (by omega)]
    rfl
  rw [this]
  simp [beL]
def FolP (w : World) (base g cg : Nat) (m : ByteArray) (a b nx : Nat) (acc : List UInt8) (A : Option Addr) (c C : Nat) (e : Ending) (w' : World) : Prop :=
  (m.data.toList[a]? = none ∧ e = .returned (.int .i64 4) ∧ Only (fun i => base ≤ i) w w') ∨
  (∃ d : UInt8, m.data.toList[a]? = some d ∧ b ≤ (C - 192) * 256 + d.toNat ∧ e = .returned (.int .i64 8) ∧ Only (fun i => base ≤ i) w w') ∨
  (∃ d : UInt8, m.data.toList[a]? = some d ∧ (C - 192) * 256 + d.toNat < b ∧ e = .returned (.int .i64 0) ∧ Rdg w' base g cg m ((C - 192) * 256 + d.toNat) ((C - 192) * 256 + d.toNat) (if nx = 0 then a + 1 else nx) acc A c ∧ Only (fun i => base ≤ i) w w')
theorem follow_any (h : Rdg w base g cg m a b nx acc A c) (he : ErrT w) (hE : 0 < base) (ha : a ≤ m.size) (hm : m.size ≤ 1000000000000) (hb : b ≤ m.size) (hnx : nx ≤ 1000000000000000) (C : Nat) (hC : 192 ≤ C) (hC2 : C < 256) :
    Calls Tryd.prog 26 #[.pointer (some ⟨g, 0, none⟩), .int .u8 C] w (FolP w base g cg m a b nx acc A c C) := by
  have hl : m.data.toList.length = m.size := by rw [Array.length_toList]; rfl
  have hms : m.size ≤ maxLen := by unfold maxLen; omega
  obtain ⟨c0, c1, c2, c3⟩ := blk4 h.blk
  have hcur := h.cur
  have hgc := h.ne
  have hgb := h.hg
  have hcb := h.hc
  go_enter Tryd.func26, Tryd.ntmps26
  go_wp2_with fail
  by_cases hs : a < m.size
  · obtain ⟨d, hd, hn⟩ := num1 m a hs
    refine (Byte_in hcur ha hms (by omega)).mono ?_
    rintro e w1 ⟨rfl, hc1, ho1⟩
    rw [hn]
    have h1 := h.moved ho1 hc1
    have ho1' : Only (fun i => base ≤ i) w w1 := ho1.mono (fun i _ e => by have e' : i = cg := e; omega)
    clear h hcur c0 c1 c2 c3 hn hc1 ho1 he
    go_wp2_with fail
    refine (passed_any h1 hnx).mono ?_
    rintro e w2 ⟨rfl, h2, ho2⟩
    have ho2' : Only (fun i => base ≤ i) w w2 := ho1'.trans ho2 (fun i _ e => by have e' : i = g := e; show base ≤ i; omega)
    clear h1 ho1' ho2
    obtain ⟨nx', hnx'⟩ : ∃ n, n = if nx = 0 then a + 1 else nx := ⟨_, rfl⟩
    rw [← hnx'] at h2
    have HN := Lib.hid hnx'
    clear hnx'
    obtain ⟨c0, c1, c2, c3⟩ := blk4 h2.blk
    obtain ⟨f0, f1, f2, f3⟩ := frz4 h2.blk
    have bn := not192 hC hC2
    have hd8 : d.toNat < 256 := UInt8.toNat_lt _
    obtain ⟨T, hT⟩ : ∃ T, T = (C - 192) * 256 + d.toNat := ⟨_, rfl⟩
    obtain ⟨D, hD⟩ : ∃ D, D = C - 192 := ⟨_, rfl⟩
    rw [← hD] at bn
    have hD64 : D < 64 := by omega
    have HT := Lib.hid hT
    have hT2 : T = D * 256 + d.toNat := by rw [hT, hD]
    have sh := shl8 hD64
    have jo := or8 hD64 hd8
    rw [← hT2] at jo
    clear hT hD hT2
    by_cases hlt : b ≤ T
    · have dd : decide ((T : Int) ≥ (b : Int)) = true := decide_eq_true (by omega)
      have dn : b ≤ T := hlt
      go_wp2_with fail
      go_ret
      exact .inr (.inl ⟨d, hd, by rw [← HT.out]; exact hlt, rfl, ho2'⟩)
    · have dd : decide ((T : Int) ≥ (b : Int)) = false := decide_eq_false (by omega)
      have h3 := h2.setB T
      have ho3 : Only (fun i => base ≤ i) w (w2.setCell ⟨g, 2, none⟩ (.int .i64 T)) := ho2'.setCell (p := ⟨g, 2, none⟩) (.inl hgb) _
      have d0 := (blk4 h3.blk).1
      clear h2 ho2'
      go_wp2_with fail
      refine (Seek_in h3.cur T (by omega)).mono ?_
      rintro e w4 ⟨rfl, hc4, ho4⟩
      have h4 := h3.moved ho4 hc4
      have ho5 := ho3.trans ho4 (fun i _ e => by have e' : i = cg := e; show base ≤ i; omega)
      go_wp2_with fail
      go_ret
      exact .inr (.inr ⟨d, hd, by rw [← HT.out]; omega, rfl, by rw [← HT.out, ← HN.out]; exact h4, ho5⟩)
  · have hno : m.data.toList[a]? = none := List.getElem?_eq_none (by omega)
    refine (Byte_short hcur he ha hms (by omega)).mono ?_
    rintro e w1 ⟨rfl, ho1⟩
    go_wp2_with fail
    go_ret
    exact .inl ⟨hno, rfl, Only.of_still ho1 _⟩
theorem Rdg.setA {wg : World} {acc' : List UInt8} {A' : Option Addr} {c' n' : Nat} (h : Rdg w base g cg m a b nx acc A c) (hn : acc'.length = n')
    (own' : wg.ownsRow base 5 1 (.slice A' n' c') n' (bv acc')) (o : Only (fun i => (Value.slice A acc.length c).ownBlock = some i) w wg) :
    Rdg (wg.setCell ⟨g, 1, none⟩ (.slice A' n' c')) base g cg m a b nx acc' A' c' ∧ Only (fun i => base ≤ i) w (wg.setCell ⟨g, 1, none⟩ (.slice A' n' c')) := by
  subst hn
  have hb := h.blk.only o (own_blk_ne h.own h.blk (by decide))
  have hc := h.cur.only o (own_blk_ne h.own h.cur (by decide))
  have ho : Only (· = g) wg (wg.setCell ⟨g, 1, none⟩ (.slice A' acc'.length c')) := (Only.refl (· = g) wg).setCell (p := ⟨g, 1, none⟩) (.inl rfl) _
  have hb' := hb.set_ 1 (.slice A' acc'.length c')
  simp at hb'
  have hlo := h.hg
  exact ⟨⟨h.hg, h.hc, hb', hc.only ho (fun e => h.ne e.symm), own_only own' ho (fun k hk e => by
    have e' : k = g := e
    subst e'
    exact own_blk_ne own' hb (by decide) hk)⟩, (o.mono (fun i _ hi => (h.own.lt i hi).1)).trans ho (fun i _ e => by have e' : i = g := e; show base ≤ i; omega)⟩
def TakP (w : World) (base g cg : Nat) (m : ByteArray) (a b nx : Nat) (acc : List UInt8) (C : Nat) (e : Ending) (w' : World) : Prop :=
  (m.size < a + C ∧ e = .returned (.int .i64 4) ∧ Only (fun i => base ≤ i) w w') ∨
  (C = 0 ∧ e = .returned (.int .i64 0) ∧ (∃ A' c', Rdg w' base g cg m a b (if nx = 0 then a else nx) (acc ++ [0]) A' c') ∧ Only (fun i => base ≤ i) w w') ∨
  (0 < C ∧ a + C ≤ m.size ∧ 254 < acc.length + 1 + C ∧ e = .returned (.int .i64 5) ∧ Only (fun i => base ≤ i) w w') ∨
  (0 < C ∧ a + C ≤ m.size ∧ acc.length + 1 + C ≤ 254 ∧ e = .returned (.int .i64 0) ∧ (∃ A' c', Rdg w' base g cg m (a + C) b nx (acc ++ UInt8.ofNat C :: (m.data.toList.drop a).take C) A' c') ∧ Only (fun i => base ≤ i) w w')
theorem extract_str (m : ByteArray) (a C : Nat) : m.extract a (a + C) = mk ((m.data.toList.drop a).take C) := by
  have e : (m.extract a (a + C)).data.toList = (m.data.toList.drop a).take C := by
    rw [ByteArray.data_extract, Array.toList_extract, List.extract_eq_take_drop, show a + C - a = C by omega]
  rw [← e]; rfl

set_option maxRecDepth 1000000 in
set_option maxHeartbeats 3200000 in
theorem takeL_any (h : Rdg w base g cg m a b nx acc A c) (hbw : base ≤ w.heap.size) (he : ErrT w) (ha : a ≤ m.size) (hm : m.size ≤ 1000000000000) (hacc : acc.length ≤ 254) (hnx : nx ≤ 1000000000000000) (C : Nat) (hC : C < 64) :
    Calls Tryd.prog 27 #[.pointer (some ⟨g, 0, none⟩), .int .u8 C] w (TakP w base g cg m a b nx acc C) := by
  obtain ⟨i0, hi, hz0, hz1, hz2⟩ := info_parts info_u8
  have hl : m.data.toList.length = m.size := by rw [Array.length_toList]; rfl
  have hms : m.size ≤ maxLen := by unfold maxLen; omega
  obtain ⟨c0, c1, c2, c3⟩ := blk4 h.blk
  have hcur := h.cur
  have hgc := h.ne
  have hgb := h.hg
  have hcb := h.hc
  go_enter Tryd.func27, Tryd.ntmps27
  go_wp2_with fail
  by_cases hs : a + C ≤ m.size
  · refine (Take_in hcur ha hms C hs).mono ?_
    rintro e w1 ⟨rfl, hc1, ho1⟩
    have h1 := h.moved ho1 hc1
    have ho1' : Only (fun i => base ≤ i) w w1 := ho1.mono (fun i _ e => by have e' : i = cg := e; show base ≤ i; omega)
    have hbw1 : base ≤ w1.heap.size := Nat.le_trans hbw ho1.size
    obtain ⟨X, hX⟩ : ∃ X, X = (m.data.toList.drop a).take C := ⟨_, rfl⟩
    have hXl : X.length = C := by rw [hX, List.length_take, List.length_drop]; omega
    rw [extract_str, ← hX]
    have HX := Lib.hid hX
    clear h hcur c0 c1 c2 c3 hc1 ho1 he hX
    obtain ⟨c0, c1, c2, c3⟩ := blk4 h1.blk
    have hp1 := h1.own.alloc (.cells #[.int .u8 (C : Int)] 5)
    have hrd := Reads.of_own (World.ownsRow_lit (e := 5) (size := 1) (base := 0) w1 #[.int .u8 (C : Int)] 1 (Nat.zero_le _) (by unfold maxLen; omega) rfl)
    have hza : (w1.alloc (.cells #[.int .u8 (C : Int)] 5)).heap.size = w1.heap.size + 1 := by simp
    have HZA := Lib.hid hza
    have hoA : Only (fun i => (Value.slice A acc.length c).ownBlock = some i) w1 (w1.alloc (.cells #[.int .u8 (C : Int)] 5)) := (Only.refl _ _).alloc _
    clear hza
    go_wp2_with (at_builtin; refine wpList_append_any _ rfl (.tmp 24) (.tmp 26) 33 rfl base 5 i0 (.int .u8 0) 1 1 Tryd.underlying33 hi hz0 hz1 hz2 rfl (by decide) _ _ _ rfl hp1 _ (some _) 1 1 _ rfl hrd ?q1 ?q2 ?q3 ?q4 ?_)
    case q1 => first | rfl | (intro u hu; simp at hu; subst hu; rfl)
    case q2 => unfold maxLen; omega
    case q3 => omega
    case q4 => have := HZA.out; omega
    intro v' wg hown' hgrow hblk
    obtain ⟨A', c', hv⟩ := own_shape hown'
    subst hv
    have hrow : bv acc ++ [Value.int .u8 (C : Int)] = bv (acc ++ [UInt8.ofNat C]) := by
      rw [bv_append]
      show bv acc ++ [Value.int .u8 (C : Int)] = bv acc ++ [Value.int .u8 ((UInt8.ofNat C).toNat : Int)]
      rw [toNat_len (by omega)]
    rw [hrow] at hown'
    obtain ⟨h2, ho2⟩ := h1.setA (acc' := acc ++ [UInt8.ofNat C]) (n' := acc.length + 1) (by simp) hown' (hoA.grown hgrow (fun k hk => .inl hk))
    have ho2' := ho1'.trans ho2 (fun i _ e => e)
    have cW := (h1.blk.only (hoA.grown hgrow (fun k hk => .inl hk)) (own_blk_ne h1.own h1.blk (by decide))).cell 1
    have fW := (h1.blk.only (hoA.grown hgrow (fun k hk => .inl hk)) (own_blk_ne h1.own h1.blk (by decide))).frozen 1
    simp at cW
    have H2 := Lib.hid h2
    have HO2 := Lib.hid ho2'
    clear h1 c0 c1 c2 c3 hp1 hrd HZA hoA hgrow hblk hrow hown' ho2 ho1' h2 ho2'
    by_cases hC0 : C = 0
    · subst hC0
      have hX0 : X = [] := List.eq_nil_of_length_eq_zero hXl
      go_wp2_with fail
      refine (passed_any H2.out hnx).mono ?_
      rintro e w3 ⟨rfl, h3, ho3⟩
      go_wp2_with fail
      go_ret
      exact .inr (.inl ⟨rfl, rfl, ⟨A', c', h3⟩, HO2.out.trans ho3 (fun i _ e => by have e' : i = g := e; show base ≤ i; omega)⟩)
    · have d0 : decide ((C : Int) = 0) = false := decide_eq_false (by omega)
      have d1 : ((C : Int) == 0) = false := by rw [beq_eq_false_iff_ne]; omega
      have own2 := H2.out.own
      rw [List.length_append, List.length_singleton] at own2
      have hsz : (mk X).size = C := hXl
      go_wp2_with (at_builtin; refine Lib.wpList_append_own_string _ rfl (.tmp 38) (.tmp 39) 33 9 rfl base 5 i0 Tryd.underlying33 Tryd.underlying9 hi hz0 hz1 hz2 _ _ _ rfl own2 (mk X) rfl ?r1 ?r2 ?r3 ?_)
      case r1 => unfold maxLen; omega
      case r2 => omega
      case r3 => have h1 := HO2.out.size; omega
      intro v2 wh hown2 hgrow2 _
      obtain ⟨A2, c2, hv⟩ := own_shape hown2
      subst hv
      have hrow2 : bv (acc ++ [UInt8.ofNat C]) ++ Lib.strCells (mk X) = bv (acc ++ UInt8.ofNat C :: X) := by
        rw [show acc ++ UInt8.ofNat C :: X = (acc ++ [UInt8.ofNat C]) ++ X by simp, bv_append (acc ++ [UInt8.ofNat C]) X]
        rfl
      rw [hrow2] at hown2
      have hoW : Only (fun i => (Value.slice A' (acc ++ [UInt8.ofNat C]).length c').ownBlock = some i) (wg.setCell ⟨g, 1, none⟩ (.slice A' (acc.length + 1) c')) wh := (Only.refl _ _).grown hgrow2 (fun k hk => .inl (by rw [List.length_append, List.length_singleton]; exact hk))
      have hbW := H2.out.blk.only hoW (own_blk_ne H2.out.own H2.out.blk (by decide))
      have cW2 := hbW.cell 1
      have fW2 := hbW.frozen 1
      simp at cW2
      obtain ⟨h3, ho3⟩ := H2.out.setA (acc' := acc ++ UInt8.ofNat C :: X) (n' := acc.length + 1 + C) (by rw [List.length_append, List.length_cons, hXl]; omega) hown2 hoW
      have ho3' := HO2.out.trans ho3 (fun i _ e => e)
      have H3 := Lib.hid h3
      have HO3 := Lib.hid ho3'
      clear hoW hbW h3 ho3' ho3 hown2 hrow2 hgrow2 own2 H2 HO2 cW fW
      by_cases h254 : 254 < acc.length + 1 + C
      · have d2 : decide ((acc.length : Int) + 1 + (C : Int) + 1 > 255) = true := decide_eq_true (by omega)
        go_wp2_with fail
        go_ret
        exact .inr (.inr (.inl ⟨by omega, hs, h254, rfl, HO3.out⟩))
      · have d2 : decide ((acc.length : Int) + 1 + (C : Int) + 1 > 255) = false := decide_eq_false (by omega)
        go_wp2_with fail
        go_ret
        exact .inr (.inr (.inr ⟨by omega, hs, by omega, rfl, ⟨A2, c2, by rw [← HX.out]; exact H3.out⟩, HO3.out⟩))
  · refine (Take_short hcur he ha hms C (by omega)).mono ?_
    rintro e w1 ⟨rfl, ho1⟩
    go_wp2_with fail
    go_ret
    exact .inl ⟨by omega, rfl, Only.of_still ho1 _⟩
/-- What a step does. -/
def StepP (w : World) (base g cg : Nat) (m : ByteArray) (a b nx : Nat) (acc : List UInt8) (e : Ending) (w' : World) : Prop :=
  Only (fun i => base ≤ i) w w' ∧
  ((∃ (er : Nat) (d : Bool), st1 m.data.toList a b nx acc = .err er ∧ er ≠ 0 ∧ e = .returned (.tuple #[.bool d, .int .i64 er])) ∨
   (∃ acc' nx' a' A' c', st1 m.data.toList a b nx acc = .fin acc' nx' ∧ e = .returned (.tuple #[.bool true, .int .i64 0]) ∧ Rdg w' base g cg m a' b nx' acc' A' c') ∨
   (∃ a' b' nx' acc' A' c', st1 m.data.toList a b nx acc = .go a' b' nx' acc' ∧ e = .returned (.tuple #[.bool false, .int .i64 0]) ∧ Rdg w' base g cg m a' b' nx' acc' A' c'))

set_option maxRecDepth 1000000 in
set_option maxHeartbeats 3200000 in
theorem step_any (h : Rdg w base g cg m a b nx acc A c) (hbw : base ≤ w.heap.size) (he : ErrT w) (hE : 0 < base) (ha : a ≤ m.size) (hm : m.size ≤ 1000000000000) (hb : b ≤ m.size) (hacc : acc.length ≤ 254) (hnx : nx ≤ 1000000000000000) :
    Calls Tryd.prog 19 #[.pointer (some ⟨g, 0, none⟩)] w (StepP w base g cg m a b nx acc) := by
  have hl : m.data.toList.length = m.size := by rw [Array.length_toList]; rfl
  have hms : m.size ≤ maxLen := by unfold maxLen; omega
  obtain ⟨c0, c1, c2, c3⟩ := blk4 h.blk
  have hcur := h.cur
  have hgb := h.hg
  have hcb := h.hc
  go_enter Tryd.func19, Tryd.ntmps19
  go_wp2_with fail
  by_cases hs : a < m.size
  · obtain ⟨d, hd, hn⟩ := num1 m a hs
    refine (Byte_in hcur ha hms (by omega)).mono ?_
    rintro e w1 ⟨rfl, hc1, ho1⟩
    rw [hn]
    have h1 := h.moved ho1 hc1
    have he1 := he.by_cur hcur ho1
    have ho1' : Only (fun i => base ≤ i) w w1 := ho1.mono (fun i _ e => by have e' : i = cg := e; show base ≤ i; omega)
    have hbw1 : base ≤ w1.heap.size := Nat.le_trans hbw ho1.size
    have hd8 : d.toNat < 256 := UInt8.toNat_lt _
    have ba := and192 hd8
    clear h hcur c0 c1 c2 c3 hn hc1 ho1 he
    obtain ⟨C, hC⟩ : ∃ C, C = d.toNat := ⟨_, rfl⟩
    have hdC : d = UInt8.ofNat C := by rw [hC, UInt8.ofNat_toNat]
    rw [← hC] at ba hd8 ⊢
    have HC := Lib.hid hC
    clear hC
    by_cases g1 : 192 ≤ C
    · rw [if_pos g1] at ba
      go_wp2_with fail
      refine (follow_any h1 he1 hE (by omega) hm hb hnx C g1 hd8).mono ?_
      intro e w2 hP
      unfold FolP at hP
      rcases hP with ⟨hno, rfl, ho2⟩ | ⟨d2, hd2, hge, rfl, ho2⟩ | ⟨d2, hd2, hlt, rfl, h2, ho2⟩
      · go_wp2_with fail
        go_ret2
        refine ⟨ho1'.trans ho2 (fun i _ e => e), .inl ⟨4, false, ?_, by decide, rfl⟩⟩
        unfold st1
        rw [hd]
        simp only
        rw [← HC.out, if_pos g1, hno]
      · go_wp2_with fail
        go_ret2
        refine ⟨ho1'.trans ho2 (fun i _ e => e), .inl ⟨8, false, ?_, by decide, rfl⟩⟩
        unfold st1
        rw [hd]
        simp only
        rw [← HC.out, if_pos g1, hd2]
        simp only
        rw [if_pos hge]
      · go_wp2_with fail
        go_ret2
        refine ⟨ho1'.trans ho2 (fun i _ e => e), .inr (.inr ⟨_, _, _, _, _, _, ?_, rfl, h2⟩)⟩
        unfold st1
        rw [hd]
        simp only
        rw [← HC.out, if_pos g1, hd2]
        simp only
        rw [if_neg (by omega)]
    · rw [if_neg g1] at ba
      by_cases g2 : C < 64
      · rw [if_pos g2] at ba
        go_wp2_with fail
        refine (takeL_any h1 hbw1 he1 (by omega) hm hacc hnx C g2).mono ?_
        intro e w2 hP
        unfold TakP at hP
        have hstep : st1 m.data.toList a b nx acc = if m.data.toList.length < a + 1 + C then .err 4 else if C = 0 then .fin (acc ++ [d]) (if nx = 0 then a + 1 else nx) else if 254 < acc.length + 1 + C then .err 5 else .go (a + 1 + C) b nx (acc ++ d :: (m.data.toList.drop (a + 1)).take C) := by
          unfold st1
          rw [hd]
          simp only
          rw [← HC.out, if_neg g1, if_neg (by omega)]
        rcases hP with ⟨hsh, rfl, ho2⟩ | ⟨h0, rfl, ⟨A2, c2, h2⟩, ho2⟩ | ⟨h0, hle, h5, rfl, ho2⟩ | ⟨h0, hle, h5, rfl, ⟨A2, c2, h2⟩, ho2⟩
        · go_wp2_with fail
          go_ret2
          refine ⟨ho1'.trans ho2 (fun i _ e => e), .inl ⟨4, _, ?_, by decide, rfl⟩⟩
          rw [hstep, if_pos (by omega)]
        · subst h0
          go_wp2_with fail
          go_ret2
          refine ⟨ho1'.trans ho2 (fun i _ e => e), .inr (.inl ⟨_, _, _, _, _, ?_, rfl, h2⟩)⟩
          rw [hstep, if_neg (by omega), if_pos trivial, hdC]
          rfl
        · have d0 : ((C : Int) == 0) = false := by rw [beq_eq_false_iff_ne]; omega
          have d1 : decide ((C : Int) = 0) = false := decide_eq_false (by omega)
          go_wp2_with fail
          go_ret2
          refine ⟨ho1'.trans ho2 (fun i _ e => e), .inl ⟨5, _, ?_, by decide, rfl⟩⟩
          rw [hstep, if_neg (by omega), if_neg (by omega), if_pos h5]
        · have d0 : ((C : Int) == 0) = false := by rw [beq_eq_false_iff_ne]; omega
          have d1 : decide ((C : Int) = 0) = false := decide_eq_false (by omega)
          go_wp2_with fail
          go_ret2
          refine ⟨ho1'.trans ho2 (fun i _ e => e), .inr (.inr ⟨_, _, _, _, _, _, ?_, rfl, h2⟩)⟩
          rw [hstep, if_neg (by omega), if_neg (by omega), if_neg (by omega), hdC]
      · rw [if_neg g2] at ba
        have hstep : st1 m.data.toList a b nx acc = .err 3 := by
          unfold st1
          rw [hd]
          simp only
          rw [← HC.out, if_neg g1, if_pos (by omega)]
        by_cases g3 : C < 128
        · rw [if_pos g3] at ba
          go_wp2_with fail
          go_ret2
          exact ⟨ho1', .inl ⟨3, false, hstep, by decide, rfl⟩⟩
        · rw [if_neg g3] at ba
          go_wp2_with fail
          go_ret2
          exact ⟨ho1', .inl ⟨3, false, hstep, by decide, rfl⟩⟩
  · have hno : m.data.toList[a]? = none := List.getElem?_eq_none (by omega)
    refine (Byte_short hcur he ha hms (by omega)).mono ?_
    rintro e w1 ⟨rfl, ho1⟩
    go_wp2_with fail
    go_ret2
    exact ⟨Only.of_still ho1 _, .inl ⟨4, false, by unfold st1; rw [hno], by decide, rfl⟩⟩
end
end Go.Proofs.YtfhnfjfjmjopeaaDoor
