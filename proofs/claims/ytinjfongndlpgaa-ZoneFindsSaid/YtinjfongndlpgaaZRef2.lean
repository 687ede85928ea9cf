/-
  The reference of names: Bytes, Labels, May.
-/
import Derived.Test.YtinjfongndlpgaaZRef1
namespace Go.Proofs.Ytinjfongndlpgaa
open Go.RowKit
set_option linter.unusedVariables false
set_option linter.unusedSimpArgs false

/-- What is known of the whole when the walk stands at a, with these labels read. -/
theorem take_snoc {α β : Type} (f : α → List β) (l : List α) (k : Nat) (h : k < l.length) : (l.take (k + 1)).flatMap f = (l.take k).flatMap f ++ f l[k] := by
  rw [List.take_add_one, List.flatMap_append, List.getElem?_eq_getElem h]
  simp
theorem sz_take : ∀ (L : List Lab) (k : Nat), sz (L.take k) ≤ sz L
  | [], k => by simp [sz]
  | x :: r, 0 => by simp [sz]
  | x :: r, k + 1 => by rw [List.take_succ_cons]; simp only [sz]; have := sz_take r k; omega
def encs (L : List Lab) : List UInt8 := L.flatMap fun x => UInt8.ofNat x.length :: x
theorem enc_encs : ∀ L : List Lab, enc L = encs L ++ [0]
  | [] => rfl
  | x :: r => by rw [enc, enc_encs r]; simp [encs]
theorem encs_len : ∀ L : List Lab, (encs L).length = sz L
  | [] => rfl
  | x :: r => by
      have := encs_len r
      unfold encs at *
      rw [List.flatMap_cons, List.length_append, this]
      simp only [List.length_cons, sz]; omega
theorem encs_take (L : List Lab) (k : Nat) (h : k < L.length) : encs (L.take (k + 1)) = encs (L.take k) ++ (UInt8.ofNat L[k].length :: L[k]) := take_snoc _ L k h
theorem sz_snoc (L : List Lab) (k : Nat) (h : k < L.length) : sz (L.take (k + 1)) = sz (L.take k) + (1 + L[k].length) := by
  rw [List.take_add_one, sz_app, List.getElem?_eq_getElem h]; simp [sz]
def LAt (l : List UInt8) (a : Nat) (D : List Lab) : Prop := ∃ f, l.length - a ≤ f ∧ dec l.length l = (dec f (l.drop a)).map (D ++ ·)
theorem LAt.start (l : List UInt8) : LAt l 0 [] := ⟨l.length, by omega, by rw [List.drop_zero]; cases dec l.length l <;> rfl⟩
theorem LAt.zero {l : List UInt8} {a : Nat} {D : List Lab} (h : LAt l a D) (ha : a < l.length) (hb : l[a] = 0) : dec l.length l = if a + 1 = l.length then some D else none := by
  obtain ⟨f, hf, e⟩ := h
  obtain ⟨f', rfl⟩ : ∃ f', f = f' + 1 := ⟨f - 1, by omega⟩
  rw [e, drop_at ha, dec_cons, if_pos hb]
  by_cases h1 : a + 1 = l.length
  · rw [if_pos (List.drop_of_length_le (by omega)), if_pos h1]; simp
  · rw [if_neg (by intro e; have := congrArg List.length e; simp at this; omega), if_neg h1]; rfl
theorem LAt.big {l : List UInt8} {a : Nat} {D : List Lab} (h : LAt l a D) (ha : a < l.length) (hb : ¬ l[a] = 0) (h63 : 63 < l[a].toNat) : dec l.length l = none := by
  obtain ⟨f, hf, e⟩ := h
  obtain ⟨f', rfl⟩ : ∃ f', f = f' + 1 := ⟨f - 1, by omega⟩
  rw [e, drop_at ha, dec_cons, if_neg hb, if_pos h63]; rfl
theorem LAt.short {l : List UInt8} {a : Nat} {D : List Lab} (h : LAt l a D) (ha : a < l.length) (hb : ¬ l[a] = 0) (h63 : ¬ 63 < l[a].toNat) (hs : l.length < a + 1 + l[a].toNat) : dec l.length l = none := by
  obtain ⟨f, hf, e⟩ := h
  obtain ⟨f', rfl⟩ : ∃ f', f = f' + 1 := ⟨f - 1, by omega⟩
  rw [e, drop_at ha, dec_cons, if_neg hb, if_neg h63, if_pos (by rw [List.length_drop]; omega)]; rfl
theorem LAt.next {l : List UInt8} {a : Nat} {D : List Lab} (h : LAt l a D) (ha : a < l.length) (hb : ¬ l[a] = 0) (h63 : ¬ 63 < l[a].toNat) (hs : ¬ l.length < a + 1 + l[a].toNat) : LAt l (a + 1 + l[a].toNat) (D ++ [(l.drop (a + 1)).take l[a].toNat]) := by
  obtain ⟨f, hf, e⟩ := h
  obtain ⟨f', rfl⟩ : ∃ f', f = f' + 1 := ⟨f - 1, by omega⟩
  rw [drop_at ha, dec_cons, if_neg hb, if_neg h63, if_neg (by rw [List.length_drop]; omega), List.drop_drop] at e
  refine ⟨f', by omega, ?_⟩
  rw [e, Option.map_map]
  congr 1
  funext z
  simp
theorem LAt.done {l : List UInt8} {a : Nat} {D : List Lab} (h : LAt l a D) (ha : ¬ a < l.length) : dec l.length l = none := by
  obtain ⟨f, hf, e⟩ := h
  rw [e, List.drop_of_length_le (by omega), dec_nil]; rfl
theorem may_of_none {l : List UInt8} (h : dec l.length l = none) : mayN l = false := by unfold mayN; rw [h]; simp
theorem may_long {l : List UInt8} (h : 255 < l.length) : mayN l = false := by unfold mayN; rw [decide_eq_false (by omega)]; rfl
theorem name_of {s : ByteArray} {D : List Lab} (h : dec s.data.toList.length s.data.toList = some D) (hl : ¬ 255 < s.data.toList.length) : okL D ∧ s = mk (enc D) := by
  obtain ⟨e, hD⟩ := enc_dec _ _ _ h
  refine ⟨⟨hD, ?_⟩, by rw [← e]; rfl⟩
  rw [e, enc_len] at hl
  omega
theorem extract_mk (s : ByteArray) (a k : Nat) : s.extract (a + 1) (a + 1 + k) = mk ((s.data.toList.drop (a + 1)).take k) := by
  apply ByteArray.ext
  apply Array.toList_inj.1
  simp [mk, ByteArray.data_extract, List.extract]

set_option maxRecDepth 1000000 in
set_option maxHeartbeats 3200000 in
theorem rlabels_any (s : ByteArray) (hs : s.size ≤ 30000) (w : World) :
    Calls Try.prog 26 #[.string s] w fun e w' => (Hid (mayN s.data.toList = false) ∧ e = .returned (.tuple #[.slice none 0 0, .bool false]) ∧ Still w w') ∨
      (∃ L A c, Hid (okL L ∧ s = mk (enc L)) ∧ e = .returned (.tuple #[.slice A L.length c, .bool true]) ∧ w'.ownsRow w.heap.size 9 1 (.slice A L.length c) L.length (sv L) ∧ Still w w') := by
  have hL : s.data.toList.length = s.size := by rw [Array.length_toList]; rfl
  obtain ⟨i0, hi, hz0, hz1, hz2⟩ := info_parts info_str
  have HL := Lib.hid hL
  clear hL
  go_enter Try.func26, Try.ntmps26
  go_wp2_with fail
  go_loopw [4, 5] (fun i4 i5 wr => ∃ (a : Nat) (D : List Lab) (A : Option Addr) (c : Nat), a ≤ s.size ∧ D.length ≤ a ∧ i4 = .slice A D.length c ∧ i5 = .int .i64 a ∧ Hid (LAt s.data.toList a D) ∧ wr.ownsRow w.heap.size 9 1 (.slice A D.length c) D.length (sv D) ∧ Still w wr) (fun _ i _ => s.size - (intOf i).toNat)
  case atStart => exact ⟨0, [], none, 0, by omega, Nat.le_refl _, rfl, rfl, Lib.hid (LAt.start _), World.ownsRow_nil _ _ _ _, Only.refl _ _⟩
  case round =>
    obtain ⟨a, D, A, c, ha, hDl, rfl, rfl, hat, hown, hst⟩ := hrel
    have hsz := hst.size
    by_cases hlt : a < s.size
    · have hlt' : a < s.data.toList.length := by rw [HL.out]; exact hlt
      have hel : s.data.toList[a] = s[a] := by rw [Array.getElem_toList]; rfl
      have h0 := hat.out.zero hlt'
      have h1 := hat.out.big hlt'
      have h2 := hat.out.short hlt'
      have h3 := hat.out.next hlt'
      rw [hel] at h0 h1 h2 h3
      rw [HL.out] at h0 h2 h3
      have H0 := Lib.hid h0
      have H1 := Lib.hid h1
      have H2 := Lib.hid h2
      have H3 := Lib.hid h3
      clear h0 h1 h2 h3 hel
      have hb8 : s[a].toNat < 256 := UInt8.toNat_lt _
      have i1 : (a : Int) < (s.size : Int) := by omega
      have hz : s[a] = 0 ↔ s[a].toNat = 0 := ⟨fun e => by rw [e]; rfl, fun e => UInt8.toNat_inj.1 (by rw [e]; rfl)⟩
      have HZ := Lib.hid hz
      clear hz
      by_cases e0 : s[a].toNat = 0
      · have hd := H0.out (HZ.out.2 e0)
        have e0' : ((s[a].toNat : Nat) : Int) = 0 := by omega
        have e0'' : ((s[a].toNat : Int) == 0) = true := by rw [beq_iff_eq]; exact e0'
        have y1 : IntKind.i64.wrap ((s.size : Int) - 1) = (s.size : Int) - 1 := IntWalk.i64_in _ (by omega)
        clear H0 H1 H2 H3 HZ
        by_cases e1 : a + 1 = s.size
        · rw [if_pos e1] at hd
          have j1 : ((a : Int) == (s.size : Int) - 1) = true := by rw [beq_iff_eq]; omega
          by_cases e2 : 255 < s.size
          · have hm : Hid (mayN s.data.toList = false) := Lib.hid (may_long (by rw [HL.out]; exact e2))
            have j2 : (255 : Int) < (s.size : Int) := by omega
            clear hd hown
            go_wp2_with fail
            go_ret2
            first | exact .inl ⟨hm, rfl, hst⟩ | exact .inl ⟨rfl, hst⟩
          · have hn : Hid (okL D ∧ s = mk (enc D)) := Lib.hid (name_of (by rw [HL.out]; exact hd) (by rw [HL.out]; exact e2))
            have j2 : ¬ (255 : Int) < (s.size : Int) := by omega
            clear hd
            go_wp2_with fail
            go_ret2
            first | exact .inr ⟨D, A, c, hn, rfl, hown, hst⟩ | exact .inr ⟨D, hn, A, c, rfl, hown, hst⟩
        · rw [if_neg e1] at hd
          have j1 : ((a : Int) == (s.size : Int) - 1) = false := by rw [beq_eq_false_iff_ne]; omega
          have hm : Hid (mayN s.data.toList = false) := Lib.hid (may_of_none (by rw [HL.out]; exact hd))
          clear hd hown
          go_wp2_with fail
          go_ret2
          first | exact .inl ⟨hm, rfl, hst⟩ | exact .inl ⟨rfl, hst⟩
      · have e0' : ((s[a].toNat : Int) == 0) = false := by rw [beq_eq_false_iff_ne]; omega
        have hne : ¬ s[a] = 0 := fun e => e0 (HZ.out.1 e)
        have Hne := Lib.hid hne
        clear hne
        by_cases e6 : 63 < s[a].toNat
        · have e6' : (63 : Int) < ((s[a].toNat : Nat) : Int) := by omega
          have hm : Hid (mayN s.data.toList = false) := Lib.hid (may_of_none (H1.out Hne.out e6))
          clear H0 H1 H2 H3 HZ hown
          go_wp2_with fail
          go_ret2
          first | exact .inl ⟨hm, rfl, hst⟩ | exact .inl ⟨rfl, hst⟩
        · have e6' : ¬ (63 : Int) < ((s[a].toNat : Nat) : Int) := by omega
          have hx := extract_mk s a s[a].toNat
          have H3' := fun h => H3.out Hne.out e6 h
          have H2' := fun h => H2.out Hne.out e6 h
          obtain ⟨k, hk⟩ : ∃ k, k = s[a].toNat := ⟨_, rfl⟩
          have hk' : s[a].toNat = k := hk.symm
          rw [hk'] at hx H3' H2' e6 e6' e0 e0' hb8
          have HS3 := Lib.hid H3'
          have HS2 := Lib.hid H2'
          clear H0 H1 H2 H3 HZ H2' H3' hk Hne
          have y1 : IntKind.i64.wrap ((a : Int) + 1) = (a : Int) + 1 := IntWalk.i64_in _ (by omega)
          have y2 : IntKind.i64.wrap ((a : Int) + 1 + (k : Int)) = (a : Int) + 1 + (k : Int) := IntWalk.i64_in _ (by omega)
          by_cases e7 : s.size < a + 1 + k
          · have e7' : (s.size : Int) < (a : Int) + 1 + (k : Int) := by omega
            have hm : Hid (mayN s.data.toList = false) := Lib.hid (may_of_none (by rw [HL.out]; exact HS2.out e7))
            clear hown HS2 HS3
            go_wp2_with fail
            go_ret2
            first | exact .inl ⟨hm, rfl, hst⟩ | exact .inl ⟨rfl, hst⟩
          · have e7' : ¬ (s.size : Int) < (a : Int) + 1 + (k : Int) := by omega
            have hnx : Hid (LAt s.data.toList (a + 1 + k) (D ++ [(s.data.toList.drop (a + 1)).take k])) := Lib.hid (HS3.out e7)
            obtain ⟨x, hxx⟩ : ∃ x, x = (s.data.toList.drop (a + 1)).take k := ⟨_, rfl⟩
            rw [← hxx] at hx hnx
            have hrd := Reads.of_own (World.ownsRow_lit (e := 9) (size := 1) (base := 0) wr #[.string (mk x)] 1 (Nat.zero_le _) (by unfold maxLen; omega) rfl)
            have hp1 := hown.alloc (.cells #[.string (mk x)] 9)
            have hst1 := hst.alloc (.cells #[.string (mk x)] 9)
            clear HS2 HS3 hxx hown
            have t1 : ((a : Int) + 1).toNat = a + 1 := by omega
            have t2 : ((a : Int) + 1 + (k : Int)).toNat = a + 1 + k := by omega
            have b1 : (a : Int) + 1 ≤ (a : Int) + 1 + (k : Int) := by omega
            have b2 : (0 : Int) ≤ (a : Int) + 1 := by omega
            have b3 : (a : Int) + 1 + (k : Int) ≤ (s.size : Int) := by omega
            go_wp2_with (at_builtin; refine wpList_append_any _ rfl (.tmp 32) (.tmp 41) 23 rfl w.heap.size 9 i0 (.string ⟨#[]⟩) 1 16 Try.underlying23 hi hz0 hz1 hz2 rfl (by decide) _ _ _ rfl hp1 _ (some _) 1 1 [.string (mk x)] rfl hrd (by first | rfl | exact sv_one [x]) (by unfold maxLen; omega) (by omega) (by first | (simp; omega) | omega) ?_)
            intro v' wg hown' hgrow hblk
            obtain ⟨A', c', hv⟩ := own_shape hown'
            subst hv
            have hog := hst1.grown hgrow (fun k hk => .inr (hp1.lt k hk).1)
            rw [show sv D ++ [Value.string (mk x)] = sv (D ++ [x]) from (sv_append D [x]).symm] at hown'
            clear hgrow hblk hp1 hrd hst hst1
            go_wp2_with fail
            refine ⟨⟨a + 1 + k, D ++ [x], A', c', by omega, by simp; omega, by simp, by push_cast; rfl, hnx, by simpa using hown', hog⟩, ?_⟩
            simp [intOf]; omega
    · have i1 : ¬ (a : Int) < (s.size : Int) := by omega
      have hd := hat.out.done (by rw [HL.out]; exact hlt)
      have y1 : IntKind.i64.wrap ((s.size : Int) - 1) = (s.size : Int) - 1 := IntWalk.i64_in _ (by omega)
      have j1 : ((a : Int) == (s.size : Int) - 1) = false := by rw [beq_eq_false_iff_ne]; omega
      have hm : Hid (mayN s.data.toList = false) := Lib.hid (may_of_none hd)
      clear hd hown
      go_wp2_with fail
      go_ret2
      first | exact .inl ⟨hm, rfl, hst⟩ | exact .inl ⟨rfl, hst⟩

set_option maxRecDepth 1000000 in
set_option maxHeartbeats 1600000 in
theorem rmay_any (s : ByteArray) (hs : s.size ≤ 30000) (w : World) :
    Calls Try.prog 22 #[.string s] w fun e w' => e = .returned (.bool (mayN s.data.toList)) ∧ Still w w' := by
  go_enter Try.func22, Try.ntmps22
  go_wp2_with fail
  refine (rlabels_any s hs w).mono ?_
  rintro e w2 (⟨hm, rfl, h2⟩ | ⟨L, A, c, hm, rfl, -, h2⟩)
  · have HM : Hid (false = mayN s.data.toList) := Lib.hid hm.out.symm
    clear hm
    go_wp2_with fail
    go_ret
    exact ⟨ret_bool HM.out, h2⟩
  · have HM : Hid (true = mayN s.data.toList) := Lib.hid (by rw [hm.out.2]; exact (may_b hm.out.1).symm)
    clear hm
    go_wp2_with fail
    go_ret
    exact ⟨ret_bool HM.out, h2⟩

set_option maxRecDepth 1000000 in
set_option maxHeartbeats 3200000 in
theorem bytes_any (A : Option Addr) (n c : Nat) (L : List Lab) (w : World) (hr : Reads w w.heap.size 1 A n (sv L)) (hsz : sz L ≤ 100000000) (hn9 : n ≤ 1000000) :
    Calls Try.prog 29 #[.slice A n c] w fun e w' => e = .returned (.string (mk (enc L))) ∧ Still w w' := by
  have hl := read_len hr
  go_enter Try.func29, Try.ntmps29
  go_wp2_with fail
  go_loopw [3, 4] (fun i3 i wr => ∃ k : Nat, k ≤ n ∧ i3 = .string (mk (encs (L.take k))) ∧ i = .int .i64 k ∧ Still w wr) (fun _ i _ => n - (intOf i).toNat)
  case atStart => exact ⟨0, by omega, rfl, rfl, Only.refl _ _⟩
  case round =>
    obtain ⟨k, hk, rfl, rfl, hst⟩ := hrel
    by_cases hlt : k < n
    · have i1 : (k : Int) < (n : Int) := by omega
      obtain ⟨ad, hA, hab, ca⟩ := read_at hr (k := k) (by omega) hlt
      subst hA
      have ca := hst.cell_some (fun h => h) ca
      have i2 : IntKind.i64.wrap ((k : Int) + 1) = ((k + 1 : Nat) : Int) := by rw [IntWalk.i64_in _ (by omega)]; push_cast; rfl
      have htk := encs_take L k (by omega)
      have hsn := sz_snoc L k (by omega)
      have hst1 := sz_take L (k + 1)
      have hel := encs_len (L.take k)
      obtain ⟨x, hx⟩ : ∃ x, x = L[k]'(by omega) := ⟨_, rfl⟩
      rw [← hx] at ca htk hsn
      obtain ⟨P, hP⟩ : ∃ P, P = encs (L.take k) := ⟨_, rfl⟩
      rw [← hP] at htk hel ⊢
      have HT := Lib.hid htk
      obtain ⟨b, hb⟩ : ∃ b, b = UInt8.ofNat x.length := ⟨_, rfl⟩
      rw [← hb] at HT
      have y1 : IntKind.u8.wrap (x.length : Int) = (b.toNat : Int) := by rw [hb, IntKind.wrap_u8]; simp [UInt8.toNat_ofNat']
      have hxs := mk_size x
      have m1 : ¬ 9223372036854775807 < (mk P).size + (mk [b]).size := by rw [mk_size, mk_size]; simp only [List.length_cons, List.length_nil]; omega
      have m2 : ¬ 9223372036854775807 < (mk (P ++ [b])).size + (mk x).size := by rw [mk_size, mk_size, List.length_append]; simp only [List.length_cons, List.length_nil]; omega
      have m3 : ¬ 9223372036854775807 < (mk (P ++ [b])).size + x.length := by rw [← mk_size x]; exact m2
      have a1 := mk_append P [b]
      have a2 := mk_append (P ++ [b]) x
      have hfin : P ++ [b] ++ x = P ++ b :: x := by simp
      rw [hfin] at a2
      clear hx hP hb htk hsn hst1 hel hfin
      go_wp2_with fail
      have hsd : Still wr wr.drew := (Only.refl _ _).drew
      have ca := hsd.cell_some (fun h => h) ca
      have hst := hst.still hsd
      refine wp_region_held_drew (S := fun w' => Still wr.drew w') (by kernel_rfl) (Only.refl _ _) (fun hS => ?_)
      generalize wr.drew = wd at *
      clear hsd
      (refine take_p (i := 0) (v := ?_) rfl (by kernel_rfl) (by kernel_rfl) (by kernel_rfl) (fun _ _ _ h => h) (Or.inl ⟨by rfl, ?_⟩) hS ?_; rotate_left; (focus (intro w0 hSw; go_simp; try with_reducible rfl)); try simp only [Act.put, List.setIfInBounds_toArray, List.set_cons_zero, List.set_cons_succ])
      (refine take_p (i := 1) (v := ?_) rfl (by kernel_rfl) (by kernel_rfl) (by kernel_rfl) (fun _ _ _ h => h) (Or.inl ⟨by rfl, ?_⟩) hS ?_; rotate_left; (focus (intro w0 hSw; go_simp; try with_reducible rfl)); try simp only [Act.put, List.setIfInBounds_toArray, List.set_cons_zero, List.set_cons_succ])
      (refine take_p (i := 2) (v := ?_) rfl (by kernel_rfl) (by kernel_rfl) (by kernel_rfl) (fun _ _ _ h => h) (Or.inl ⟨by rfl, ?_⟩) hS ?_; rotate_left; (focus (intro w0 hSw; go_simp; try with_reducible rfl)); try simp only [Act.put, List.setIfInBounds_toArray, List.set_cons_zero, List.set_cons_succ])
      (refine take_p (i := 3) (v := ?_) rfl (by kernel_rfl) (by kernel_rfl) (by kernel_rfl) (fun _ _ _ h => h) (Or.inl ⟨by rfl, ?_⟩) hS ?_; rotate_left; (focus (intro w0 hSw; go_simp; try with_reducible rfl)); try simp only [Act.put, List.setIfInBounds_toArray, List.set_cons_zero, List.set_cons_succ])
      (refine take_p (i := 4) (v := ?_) rfl (by kernel_rfl) (by kernel_rfl) (by kernel_rfl) (fun _ _ _ h => h) (Or.inl ⟨by rfl, ?_⟩) hS ?_; rotate_left; (focus (intro w0 hSw; have q_ := hSw.cell_some (fun h => h) ca; go_simp; try with_reducible rfl)); try simp only [Act.put, List.setIfInBounds_toArray, List.set_cons_zero, List.set_cons_succ])
      (refine take_p (i := 5) (v := ?_) rfl (by kernel_rfl) (by kernel_rfl) (by kernel_rfl) (fun _ _ _ h => h) (Or.inl ⟨by rfl, ?_⟩) hS ?_; rotate_left; (focus (intro w0 hSw; go_simp; try with_reducible rfl)); try simp only [Act.put, List.setIfInBounds_toArray, List.set_cons_zero, List.set_cons_succ])
      (refine take_p (i := 6) (v := ?_) rfl (by kernel_rfl) (by kernel_rfl) (by kernel_rfl) (fun _ _ _ h => h) (Or.inl ⟨by rfl, ?_⟩) hS ?_; rotate_left; (focus (intro w0 hSw; go_simp; try with_reducible rfl)); try simp only [Act.put, List.setIfInBounds_toArray, List.set_cons_zero, List.set_cons_succ])
      (refine take_p (i := 10) (v := ?_) rfl (by kernel_rfl) (by kernel_rfl) (by kernel_rfl) (fun _ _ _ h => h) (Or.inl ⟨by rfl, ?_⟩) hS ?_; rotate_left; (focus (intro w0 hSw; go_simp; try with_reducible rfl)); try simp only [Act.put, List.setIfInBounds_toArray, List.set_cons_zero, List.set_cons_succ])
      (refine take_p (i := 11) (v := ?_) rfl (by kernel_rfl) (by kernel_rfl) (by kernel_rfl) (fun _ _ _ h => h) (Or.inl ⟨by rfl, ?_⟩) hS ?_; rotate_left; (focus (intro w0 hSw; go_simp; try with_reducible rfl)); try simp only [Act.put, List.setIfInBounds_toArray, List.set_cons_zero, List.set_cons_succ])
      (refine take_p (i := 12) (v := ?_) rfl (by kernel_rfl) (by kernel_rfl) (by kernel_rfl) (fun _ _ _ h => h) (Or.inl ⟨by rfl, ?_⟩) hS ?_; rotate_left; (focus (intro w0 hSw; go_simp; try with_reducible rfl)); try simp only [Act.put, List.setIfInBounds_toArray, List.set_cons_zero, List.set_cons_succ])
      (refine take_p (i := 13) (v := ?_) rfl (by kernel_rfl) (by kernel_rfl) (by kernel_rfl) (fun _ _ _ h => h) (Or.inl ⟨by rfl, ?_⟩) hS ?_; rotate_left; (focus (intro w0 hSw; have q_ := hSw.cell_some (fun h => h) ca; go_simp; try with_reducible rfl)); try simp only [Act.put, List.setIfInBounds_toArray, List.set_cons_zero, List.set_cons_succ])
      have hs3 := Still.new wd (.cells #[.int .u8 (b.toNat : Int)] 5)
      have cv := of_bytes (wd.alloc (.cells #[.int .u8 (b.toNat : Int)] 5)) wd.heap.size 1 [b] (fun j hj => by
        have hj0 : j = 0 := by simp at hj; omega
        subst hj0
        exact (Blk.new wd 5 #[.int .u8 (b.toNat : Int)]).cell 0)
      have cvs : Hid (∀ w', Still (wd.alloc (.cells #[.int .u8 (b.toNat : Int)] 5)) w' → (convert 40 9 (.slice (some ⟨wd.heap.size, 0, none⟩) 1 1)).run Try.prog w' = .ok (.string (mk [b])) w') := Lib.hid (fun w' hw' => of_bytes w' wd.heap.size 1 [b] (fun j hj => by
        have hj0 : j = 0 := by simp at hj; omega
        subst hj0
        exact hw'.cell_some (fun h => h) ((Blk.new wd 5 #[.int .u8 (b.toNat : Int)]).cell 0)))
      clear cv
      refine wpAnyH_ready (rs := [7]) (by kernel_rfl) (by simp) ?_
      refine cons_p rfl (fun K_ hK => ?_) AllReadyH.nil
      go_simp
      refine hK.out _ _ hs3 (fun hHeld => ?_)
      clear hK K_ hHeld
      try simp only [Act.put, List.setIfInBounds_toArray, List.set_cons_zero, List.set_cons_succ]
      have hst3 := hst.still hs3
      refine held_mono (S' := fun w' => Still (wd.alloc (.cells #[.int .u8 (b.toNat : Int)] 5)) w') (fun _ h => hs3.still h) ?_
      replace hS : (fun w' : World => Still (wd.alloc (.cells #[.int .u8 (b.toNat : Int)] 5)) w') (wd.alloc (.cells #[.int .u8 (b.toNat : Int)] 5)) := Only.refl _ _
      (refine take_p (i := 8) (v := ?_) rfl (by kernel_rfl) (by kernel_rfl) (by kernel_rfl) (fun _ _ _ h => h) (Or.inl ⟨by rfl, ?_⟩) hS ?_; rotate_left; (focus (intro w0 hSw; have q_ := cvs.out _ hSw; go_simp; try with_reducible rfl)); try simp only [Act.put, List.setIfInBounds_toArray, List.set_cons_zero, List.set_cons_succ])
      (refine take_p (i := 9) (v := ?_) rfl (by kernel_rfl) (by kernel_rfl) (by kernel_rfl) (fun _ _ _ h => h) (Or.inl ⟨by rfl, ?_⟩) hS ?_; rotate_left; (focus (intro w0 hSw; go_simp; try with_reducible rfl)); try simp only [Act.put, List.setIfInBounds_toArray, List.set_cons_zero, List.set_cons_succ])
      (refine take_p (i := 14) (v := ?_) rfl (by kernel_rfl) (by kernel_rfl) (by kernel_rfl) (fun _ _ _ h => h) (Or.inl ⟨by rfl, ?_⟩) hS ?_; rotate_left; (focus (intro w0 hSw; go_simp; try with_reducible rfl)); try simp only [Act.put, List.setIfInBounds_toArray, List.set_cons_zero, List.set_cons_succ])
      (refine take_p (i := 15) (v := ?_) rfl (by kernel_rfl) (by kernel_rfl) (by kernel_rfl) (fun _ _ _ h => h) (Or.inl ⟨by rfl, ?_⟩) hS ?_; rotate_left; (focus (intro w0 hSw; go_simp; try with_reducible rfl)); try simp only [Act.put, List.setIfInBounds_toArray, List.set_cons_zero, List.set_cons_succ])
      refine wpAnyH_done (by kernel_rfl) ?_ _
      clear cvs hS hs3 ca hst
      go_wp2_with fail
      exact ⟨⟨k + 1, by omega, by rw [HT.out], by push_cast; rfl, hst3⟩, by simp [intOf]; omega⟩
    · have i1 : ¬ (k : Int) < (n : Int) := by omega
      have ht : L.take k = L := List.take_of_length_le (by omega)
      have hel := encs_len L
      have a1 := mk_append (encs L) [0]
      rw [← enc_encs] at a1
      have a1' : mk (encs L) ++ ⟨#[0]⟩ = mk (enc L) := a1
      have m1 : ¬ 9223372036854775807 < (mk (encs L)).size + 1 := by rw [mk_size]; omega
      have m1' : ¬ 9223372036854775807 < (mk (encs L)).size + (⟨#[0]⟩ : ByteArray).size := m1
      rw [ht]
      go_wp2_with fail
      go_ret
      exact ⟨rfl, hst⟩
end Go.Proofs.Ytinjfongndlpgaa
