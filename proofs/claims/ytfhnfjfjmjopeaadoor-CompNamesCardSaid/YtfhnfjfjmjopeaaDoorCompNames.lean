/-
  CompNames.
-/
import Derived.Test.YtfhnfjfjmjopeaaDoorCompTable
import Derived.Test.YtfhnfjfjmjopeaaDoorCompPutM
import Derived.Great.Walk
namespace Go.Proofs.YtfhnfjfjmjopeaaDoor
open Go.RowKit
set_option linter.unusedVariables false
set_option linter.unusedSimpArgs false

theorem put_c {w : World} {t : Nat} {mb : Option Nat} {K : Kn} (hT : CTB w t mb K) (A : Option Addr) (n c : Nat) (b : List UInt8) (hb : w.ownsRow 0 5 1 (.slice A n c) n (bv b)) (hbl : b.length = n) (hn : n ≤ 1000000) (L : List Lab) (hL : okL L) (s : ByteArray) (hs : s = mk (enc L)) (hK : K.length ≤ 1000000) (hlow : lowK K) (cp kn : Bool)
    (R : Nat × Nat × Bool) (hR : lgC cp K L = R) (K' : Kn) (hK' : newK R K n L kn = K') (b' : List UInt8) (hb' : outP R b L = b') (n' : Nat) (hn' : b'.length = n') :
    Calls Tryd.prog 11 #[.pointer (some ⟨t, 0, none⟩), .slice A n c, .string s, .bool cp, .bool kn] w fun e w' =>
      ∃ A' c' mb', e = .returned (.tuple #[.slice A' n' c', .int .i64 0]) ∧ w'.ownsRow 0 5 1 (.slice A' n' c') n' (bv b') ∧ CTB w' t mb' K' ∧ w'.ownsRow 0 5 1 (.slice A n c) n (bv b) ∧ Only (fun i => i = t ∨ mb = some i) w w' ∧ (mb' = mb ∨ (mb = none ∧ ∃ b, mb' = some b ∧ w.heap.size ≤ b)) := by
  refine (put_ok hT A n c b (Reads.of_own hb) (rows_apart hT hb) hbl (by omega) L hL s hs hK hlow cp kn).mono ?_
  rintro e w' ⟨A', c', mb', rfl, h1, h2, h3, h4⟩
  rw [hR, hb', hn'] at h1 ⊢
  rw [hR, hK'] at h2
  exact ⟨A', c', mb', rfl, own_base h1 (Nat.zero_le _), h2, own_table hT hb h3, h3, h4⟩
theorem at_c {w : World} {t : Nat} {mb : Option Nat} {K : Kn} (hT : CTB w t mb K) (s : ByteArray) (hs : s.size ≤ 1000) (o : Option Nat) (h : lookK K s.data.toList = o) (v : Int) (hv : v = ((o.getD 0 : Nat) : Int)) (b : Bool) (hb : b = o.isSome) :
    Calls Tryd.prog 12 #[.pointer (some ⟨t, 0, none⟩), .string s] w fun e w' => e = .returned (.tuple #[.int .i64 v, .bool b]) ∧ Still w w' := by
  subst hv hb
  refine (at_any hT s (by unfold maxLen; omega)).mono ?_
  rintro e w' ⟨rfl, h'⟩
  rw [h]
  exact ⟨rfl, h'⟩
theorem conv_suf {w : World} {base N c cc g o m : Nat} {b x : List UInt8} (h : w.ownsRow base 5 1 (.slice (some ⟨g, 0, none⟩) N c) N (bv (b ++ x))) (ho : b.length = o) (hm : x.length = m) :
    (convert 33 9 (.slice (some ⟨g, o, none⟩) m cc)).run Tryd.prog w = .ok (.string (mk x)) w := by
  subst ho hm
  have := run_convert_bytes_arg (P := Tryd.prog) w 33 5 Tryd.underlying33 Tryd.underlying5 g b.length x.length cc (x.map fun b => (b.toNat : Int)) (by simp) (fun i hi => by
    have hc := h.cells (g := g) rfl (b.length + i) (.int .u8 (x[i]'(by omega)).toNat) (by unfold bv; rw [List.getElem?_map, List.getElem?_append_right (by omega), show b.length + i - b.length = i by omega, List.getElem?_eq_getElem (by omega)]; rfl)
    have hadd : (⟨g, 0, none⟩ : Addr).add (b.length + i) = ⟨g, b.length + i, none⟩ := by unfold Addr.add; split <;> simp_all
    rw [hadd] at hc
    rw [hc]
    have : i < x.length := by omega
    simp [List.getD_eq_getElem?_getD, this]) 9 Tryd.underlying9
  rw [strOfNums_bytes] at this
  exact this

theorem mbp {mb mb' : Option Nat} {B n : Nat} (hm : mb' = mb ∨ (mb = none ∧ ∃ b, mb' = some b ∧ n ≤ b)) (hP : ∀ i, mb = some i → B ≤ i) (hB : B ≤ n) : ∀ i, mb' = some i → B ≤ i := fun i e => by
  rcases hm with h | ⟨_, b, h, hb⟩
  · exact hP i (by rw [← h]; exact e)
  · rw [h] at e
    cases e
    omega
def kN : Kn := [([1, 97, 1, 98, 0], 16381), ([1, 98, 0], 16383)]
theorem kN_low : lowK kN := by
  intro p hp
  unfold kN at hp
  simp at hp
  rcases hp with rfl | rfl <;> decide
theorem okS (L : List Lab) (h1 : ∀ x ∈ L, okLab x) (h2 : sz L + 1 ≤ 255) : okL L := ⟨h1, h2⟩
theorem okL1 : okL [[97], [98]] := ⟨by intro x hx; simp at hx; rcases hx with rfl | rfl <;> exact ⟨by decide, by decide⟩, by decide⟩
theorem okL2 : okL [[99]] := ⟨by intro x hx; simp at hx; subst hx; exact ⟨by decide, by decide⟩, by decide⟩
theorem okL3 : okL [[98]] := ⟨by intro x hx; simp at hx; subst hx; exact ⟨by decide, by decide⟩, by decide⟩
theorem out1 (F : List UInt8) : outP (5, 0, false) F [[97], [98]] = F ++ [1, 97, 1, 98, 0] := by
  unfold outP
  simp [enc]
theorem out2 (F : List UInt8) : outP (3, 0, false) F [[99]] = F ++ [1, 99, 0] := by
  unfold outP
  simp [enc]
theorem out3 (F : List UInt8) : outP (0, 16383, true) F [[98]] = F ++ [255, 255] := by
  unfold outP
  rw [show beB 2 (49152 + 16383) = [255, 255] from by kernel_rfl]
  simp
theorem out4 (F : List UInt8) : outP (3, 0, false) F [[98]] = F ++ [1, 98, 0] := by
  unfold outP
  simp [enc]

theorem own_cap {w : World} {base n c : Nat} {e : TypeId} {size : Nat} {A : Option Addr} {xs : List Value} (h : w.ownsRow base e size (.slice A n c) n xs) : n ≤ c := by
  rcases h.2 with ⟨e, h0⟩ | ⟨g, cap, cur, e, _, _, hnc, _⟩
  · omega
  · cases e
    exact hnc
set_option maxRecDepth 1000000 in
set_option maxHeartbeats 12800000 in
theorem cnames_walk (w : World) (he : ErrT w) : Calls Tryd.prog 3 #[] w fun e w' => e = .returned (.bool true) ∧ Still w w' := by
  obtain ⟨i0, hi, hz0, hz1, hz2⟩ := info_parts info_u8
  obtain ⟨A6, hA6⟩ : ∃ A, A = mk (rp 126) := ⟨_, rfl⟩
  obtain ⟨A7, hA7⟩ : ∃ A, A = mk (rp 127) := ⟨_, rfl⟩
  obtain ⟨A8, hA8⟩ : ∃ A, A = mk (rp 128) := ⟨_, rfl⟩
  obtain ⟨T1, hT1⟩ : ∃ A, A6 ++ (⟨#[1, 98, 192, 0]⟩ : ByteArray) = A := ⟨_, rfl⟩
  obtain ⟨U1, hU1⟩ : ∃ A, (⟨#[1, 98]⟩ : ByteArray) ++ A6 = A := ⟨_, rfl⟩
  obtain ⟨T2, hT2⟩ : ∃ A, A7 ++ (⟨#[1, 98, 192, 0]⟩ : ByteArray) = A := ⟨_, rfl⟩
  have m126 : ∀ w, Calls Tryd.prog 9 #[.int .i64 126] w fun e w' => e = .returned (.string A6) ∧ Still w w' := fun w => by rw [hA6]; exact many_any w 126 (by decide)
  have m127 : ∀ w, Calls Tryd.prog 9 #[.int .i64 127] w fun e w' => e = .returned (.string A7) ∧ Still w w' := fun w => by rw [hA7]; exact many_any w 127 (by decide)
  have m128 : ∀ w, Calls Tryd.prog 9 #[.int .i64 128] w fun e w' => e = .returned (.string A8) ∧ Still w w' := fun w => by rw [hA8]; exact many_any w 128 (by decide)
  have z6 : A6.size ≤ 300 := by rw [hA6, mk_size]; unfold rp; rw [List.length_append, rq_len]; simp
  have z7 : A7.size ≤ 300 := by rw [hA7, mk_size]; unfold rp; rw [List.length_append, rq_len]; simp
  have Hcs : Hid (#[.string ⟨#[0]⟩, .int .i64 0, .string ⟨#[0]⟩, .int .i64 1, .int .i64 0, .string ⟨#[0]⟩, .int .i64 1, .string ⟨#[]⟩, .int .i64 0, .int .i64 4, .string ⟨#[0]⟩, .int .i64 2, .string ⟨#[]⟩, .int .i64 0, .int .i64 1, .string ⟨#[0]⟩, .int .i64 (-1), .string ⟨#[]⟩, .int .i64 0, .int .i64 1, .string ⟨#[1, 97, 0, 192, 0]⟩, .int .i64 3, .string ⟨#[1, 97, 0]⟩, .int .i64 5, .int .i64 0, .string ⟨#[1, 97, 0, 192, 1]⟩, .int .i64 3, .string ⟨#[]⟩, .int .i64 0, .int .i64 3, .string ⟨#[1, 2, 0, 192, 1]⟩, .int .i64 3, .string ⟨#[]⟩, .int .i64 0, .int .i64 4, .string ⟨#[1, 97, 0, 1, 98, 192, 0]⟩, .int .i64 3, .string ⟨#[1, 98, 1, 97, 0]⟩, .int .i64 7, .int .i64 0, .string ⟨#[1, 97, 0, 1, 98, 192, 3]⟩, .int .i64 3, .string ⟨#[]⟩, .int .i64 0, .int .i64 8, .string ⟨#[192]⟩, .int .i64 0, .string ⟨#[]⟩, .int .i64 0, .int .i64 4, .string ⟨#[128]⟩, .int .i64 0, .string ⟨#[]⟩, .int .i64 0, .int .i64 3, .string ⟨#[63]⟩, .int .i64 0, .string ⟨#[]⟩, .int .i64 0, .int .i64 4, .string ⟨#[1, 97, 192, 0]⟩, .int .i64 0, .string ⟨#[]⟩, .int .i64 0, .int .i64 8, .string ⟨#[0, 192, 0, 192, 1, 192, 3]⟩, .int .i64 5, .string ⟨#[0]⟩, .int .i64 7, .int .i64 0, .string ⟨#[0, 192, 0, 192, 3]⟩, .int .i64 3, .string ⟨#[]⟩, .int .i64 0, .int .i64 8, .string ⟨#[1, 97, 1, 98, 192, 0]⟩, .int .i64 2, .string ⟨#[]⟩, .int .i64 0, .int .i64 8, .string A7, .int .i64 0, .string A7, .int .i64 255, .int .i64 0, .string A8, .int .i64 0, .string ⟨#[]⟩, .int .i64 0, .int .i64 5, .string T1, .int .i64 253, .string U1, .int .i64 257, .int .i64 0, .string T2, .int .i64 255, .string ⟨#[]⟩, .int .i64 0, .int .i64 5] = tabC) := Lib.hid (by
    have h1 : T1 = mk (rp 126 ++ [1, 98, 192, 0]) := by rw [← hT1, hA6]; exact mk_app _ [1, 98, 192, 0]
    have h2 : U1 = mk ([1, 98] ++ rp 126) := by rw [← hU1, hA6]; exact mk_app [1, 98] _
    have h3 : T2 = mk (rp 127 ++ [1, 98, 192, 0]) := by rw [← hT2, hA7]; exact mk_app _ [1, 98, 192, 0]
    rw [h1, h2, h3, hA7, hA8]
    unfold tabC
    rfl)
  clear hA6 hA7 hA8
  go_enter Tryd.func3, Tryd.ntmps3
  go_wp2_with fail
  refine (comp_awake _ he).mono ?_
  rintro e w1 ⟨rfl, hs1⟩
  go_wp2_with fail
  refine (m127 _).mono ?_
  rintro e w2 ⟨rfl, h_⟩
  have hs2 := hs1.still h_
  clear h_ hs1
  go_wp2_with fail
  refine (m127 _).mono ?_
  rintro e w3 ⟨rfl, h_⟩
  have hs3 := hs2.still h_
  clear h_ hs2
  go_wp2_with fail
  refine (m128 _).mono ?_
  rintro e w4 ⟨rfl, h_⟩
  have hs4 := hs3.still h_
  clear h_ hs3
  go_wp2_with fail
  refine (m126 _).mono ?_
  rintro e w5 ⟨rfl, h_⟩
  have hs5 := hs4.still h_
  clear h_ hs4
  go_wp2_with fail
  refine (m126 _).mono ?_
  rintro e w6 ⟨rfl, h_⟩
  have hs6 := hs5.still h_
  clear h_ hs5
  go_wp2_with fail
  refine (m127 _).mono ?_
  rintro e w7 ⟨rfl, h_⟩
  have hs7 := hs6.still h_
  clear h_ hs6
  clear m126 m127 m128
  go_wp2_with (refine wpList_buildSliceTo rfl 26 24 20 _ rfl _ rfl (some 66) rfl Tryd.underlying26 #[.string ⟨#[0]⟩, .int .i64 0, .string ⟨#[0]⟩, .int .i64 1, .int .i64 0, .string ⟨#[0]⟩, .int .i64 1, .string ⟨#[]⟩, .int .i64 0, .int .i64 4, .string ⟨#[0]⟩, .int .i64 2, .string ⟨#[]⟩, .int .i64 0, .int .i64 1, .string ⟨#[0]⟩, .int .i64 (-1), .string ⟨#[]⟩, .int .i64 0, .int .i64 1, .string ⟨#[1, 97, 0, 192, 0]⟩, .int .i64 3, .string ⟨#[1, 97, 0]⟩, .int .i64 5, .int .i64 0, .string ⟨#[1, 97, 0, 192, 1]⟩, .int .i64 3, .string ⟨#[]⟩, .int .i64 0, .int .i64 3, .string ⟨#[1, 2, 0, 192, 1]⟩, .int .i64 3, .string ⟨#[]⟩, .int .i64 0, .int .i64 4, .string ⟨#[1, 97, 0, 1, 98, 192, 0]⟩, .int .i64 3, .string ⟨#[1, 98, 1, 97, 0]⟩, .int .i64 7, .int .i64 0, .string ⟨#[1, 97, 0, 1, 98, 192, 3]⟩, .int .i64 3, .string ⟨#[]⟩, .int .i64 0, .int .i64 8, .string ⟨#[192]⟩, .int .i64 0, .string ⟨#[]⟩, .int .i64 0, .int .i64 4, .string ⟨#[128]⟩, .int .i64 0, .string ⟨#[]⟩, .int .i64 0, .int .i64 3, .string ⟨#[63]⟩, .int .i64 0, .string ⟨#[]⟩, .int .i64 0, .int .i64 4, .string ⟨#[1, 97, 192, 0]⟩, .int .i64 0, .string ⟨#[]⟩, .int .i64 0, .int .i64 8, .string ⟨#[0, 192, 0, 192, 1, 192, 3]⟩, .int .i64 5, .string ⟨#[0]⟩, .int .i64 7, .int .i64 0, .string ⟨#[0, 192, 0, 192, 3]⟩, .int .i64 3, .string ⟨#[]⟩, .int .i64 0, .int .i64 8, .string ⟨#[1, 97, 1, 98, 192, 0]⟩, .int .i64 2, .string ⟨#[]⟩, .int .i64 0, .int .i64 8, .string A7, .int .i64 0, .string A7, .int .i64 255, .int .i64 0, .string A8, .int .i64 0, .string ⟨#[]⟩, .int .i64 0, .int .i64 5, .string T1, .int .i64 253, .string U1, .int .i64 257, .int .i64 0, .string T2, .int .i64 255, .string ⟨#[]⟩, .int .i64 0, .int .i64 5] (by kernel_rfl) ?_)
  rw [Hcs.out]
  have hB0 := Blk.new w7 24 tabC
  have hs8 := hs7.still (Still.new w7 (.cells tabC 24))
  obtain ⟨w8, hw8⟩ : ∃ w8, w8 = w7.alloc (.cells tabC 24) := ⟨_, rfl⟩
  obtain ⟨g8, hg8⟩ : ∃ g8, g8 = w7.heap.size := ⟨_, rfl⟩
  rw [← hw8, ← hg8] at hB0
  rw [← hw8] at hs8 ⊢
  rw [← hg8]
  clear hw8 hg8 hs7 Hcs
  have hS8 := Lib.hid hs8
  clear hs8
  go_loopw [2, 3, 4, 5, 68] (fun _ _ _ _ i wr => ∃ k : Nat, k ≤ 20 ∧ i = .int .i64 k ∧ Blk wr g8 24 tabC ∧ Hid (Still w wr)) (fun _ _ _ _ i _ => 20 - (intOf i).toNat)
  case atStart => exact ⟨0, by omega, rfl, hB0, hS8⟩
  case round =>
    clear hB0 hS8
    obtain ⟨k, hk, rfl, hB, hst⟩ := hrel
    by_cases hlt : k < 20
    · obtain ⟨m, a, n, nx, e, q0, q1, q2, q3, q4, hread⟩ := tab_row k hlt
      have c0 := (hB.cell _).trans q0
      have c1 := (hB.cell _).trans q1
      have c2 := (hB.cell _).trans q2
      have c3 := (hB.cell _).trans q3
      have c4 := (hB.cell _).trans q4
      have hsn := Still.new wr (.cells #[.string m, .int .i64 a, .string n, .int .i64 nx, .int .i64 e] 24)
      have hB2 := hB.only hsn (fun h => h)
      have hst2 : Hid (Still w _) := Lib.hid (hst.out.still hsn)
      clear q0 q1 q2 q3 q4 hB hst hsn
      go_wp2_with fail
      refine (hread _ (he.still hst2.out)).mono ?_
      rintro e' wz ⟨rfl, hsz⟩
      have hB3 := hB2.only hsz (fun h => h)
      have hst3 : Hid (Still w wz) := Lib.hid (hst2.out.still hsz)
      have hblk := (Blk.new wr 24 #[.string m, .int .i64 a, .string n, .int .i64 nx, .int .i64 e]).only hsz (fun h => h)
      have z2 := hblk.cell 2
      have z3 := hblk.cell 3
      have z4 := hblk.cell 4
      simp at z2 z3 z4
      clear hread hB2 hst2 hsz hblk c0 c1 c2 c3 c4
      go_wp2_with fail
      go_roundw
      case rel => exact ⟨k + 1, hlt, by go_num, hB3, hst3⟩
      case measure => simp [intOf]; omega
    · clear hB
      have hst := hst.out
      have hsT := Still.new wr (.cells #[.map none] 32)
      have hTb : CTB _ wr.heap.size none [] := ⟨Blk.new wr 32 #[.map none], .inl ⟨rfl, rfl⟩⟩
      have hsU := Lib.hid (hst.still hsT)
      have hst0 := hst.size
      clear hst hsT
      go_wp2_with (at_make; refine wpList_make_full _ rfl _ _ 33 rfl 0 5 i0 (.int .u8 0) 1 Tryd.underlying33 hi hz0 hz1 _ _ _ _ 16381 rfl rfl (by rfl) (by rfl) ?d1 ?d2 ?d3 ?_)
      case d1 => rw [hz2]; omega
      case d2 => unfold maxLen; omega
      case d3 => exact Nat.zero_le _
      intro wa howna hga
      have hsa : Still (wr.alloc (.cells #[.map none] 32)) wa := (Only.refl _ _).grown hga (fun k hk => by cases hk)
      have hTa := hTb.still hsa
      have hSa : Hid (Still w wa) := Lib.hid (hsU.out.still hsa)
      have hwt : w.heap.size ≤ wr.heap.size := hst0
      rw [made_bytes] at howna
      obtain ⟨F, hF⟩ : ∃ F, F = List.replicate 16381 (0 : UInt8) := ⟨_, rfl⟩
      rw [← hF] at howna
      have hFl : F.length = 16381 := by rw [hF, List.length_replicate]
      clear hF hga hsa hTb hsU
      obtain ⟨gb, hgb⟩ : ∃ g, g = wr.heap.size + 1 := ⟨_, rfl⟩
      obtain ⟨tt, htt⟩ : ∃ t, t = wr.heap.size := ⟨_, rfl⟩
      rw [← hgb] at howna ⊢
      rw [← htt] at hTa hwt ⊢
      clear hgb htt
      have mb0 : ∀ i, (none : Option Nat) = some i → w.heap.size ≤ i := fun i e => by cases e
      have hRa := howna
      clear howna
      go_wp2_with fail
      refine (put_c hTa (some ⟨gb, 0, none⟩) 16381 16381 F hRa hFl (by omega) [[97], [98]] okL1 ⟨#[1, 97, 1, 98, 0]⟩ rfl (by decide) (fun p hp => by cases hp) true true (5, 0, false) (by kernel_rfl) kN (by kernel_rfl) (F ++ [1, 97, 1, 98, 0]) (out1 F) 16386 (by rw [List.length_append, hFl]; rfl)).mono ?_
      rintro e wb ⟨Ab, cb, mbb, rfl, hBb, hTb, hRb, ho_, hm_⟩
      have hmbb := mbp hm_ mb0 hSa.out.size
      have hSb : Hid (Still w wb) := Lib.hid (hSa.out.trans ho_ (fun i hi e => e.elim (fun e => by omega) (fun e => by have := mb0 i e; omega)))
      clear ho_ hm_ hTa hSa hRa 
      clear hRb
      obtain ⟨b1, hb1⟩ : ∃ b, b = F ++ [1, 97, 1, 98, 0] := ⟨_, rfl⟩
      have hbl : b1.length = 16386 := by rw [hb1, List.length_append, hFl]; rfl
      rw [← hb1] at hBb
      clear hb1
      go_wp2_with fail
      refine (at_c hTb ⟨#[1, 97, 1, 98, 0]⟩ (by decide) (some 16381) (by kernel_rfl) 16381 (by kernel_rfl) true rfl).mono ?_
      rintro e wc ⟨rfl, h_⟩
      have hTc := hTb.still h_
      have hBc := own_only hBb h_ (fun _ _ h => h)
      have hSc : Hid (Still w wc) := Lib.hid (hSb.out.still h_)
      clear h_ hTb hSb hBb
      go_wp2_with fail
      refine (at_c hTc ⟨#[1, 98, 0]⟩ (by decide) (some 16383) (by kernel_rfl) 16383 (by kernel_rfl) true rfl).mono ?_
      rintro e wd ⟨rfl, h_⟩
      have hTd := hTc.still h_
      have hBd := own_only hBc h_ (fun _ _ h => h)
      have hSd : Hid (Still w wd) := Lib.hid (hSc.out.still h_)
      clear h_ hTc hSc hBc
      go_wp2_with fail
      refine (at_c hTd ⟨#[0]⟩ (by decide) none (by kernel_rfl) 0 (by kernel_rfl) false rfl).mono ?_
      rintro e we ⟨rfl, h_⟩
      have hTe := hTd.still h_
      have hBe := own_only hBd h_ (fun _ _ h => h)
      have hSe : Hid (Still w we) := Lib.hid (hSd.out.still h_)
      clear h_ hTd hSd hBd
      go_wp2_with fail
      refine (put_c hTe Ab 16386 cb b1 hBe hbl (by omega) [[99]] okL2 ⟨#[1, 99, 0]⟩ rfl (by decide) kN_low true true (3, 0, false) (by kernel_rfl) kN (by kernel_rfl) (b1 ++ [1, 99, 0]) (out2 b1) 16389 (by rw [List.length_append, hbl]; rfl)).mono ?_
      rintro e wf ⟨Af, cf, mbf, rfl, hXf, hTf, hBf, ho_, hm_⟩
      have hmbf := mbp hm_ hmbb hSe.out.size
      have hSf : Hid (Still w wf) := Lib.hid (hSe.out.trans ho_ (fun i hi e => e.elim (fun e => by omega) (fun e => by have := hmbb i e; omega)))
      clear ho_ hm_ hTe hSe hBe 
      clear hXf
      go_wp2_with fail
      refine (at_c hTf ⟨#[1, 99, 0]⟩ (by decide) none (by kernel_rfl) 0 (by kernel_rfl) false rfl).mono ?_
      rintro e wg ⟨rfl, h_⟩
      have hTg := hTf.still h_
      have hBg := own_only hBf h_ (fun _ _ h => h)
      have hSg : Hid (Still w wg) := Lib.hid (hSf.out.still h_)
      clear h_ hTf hSf hBf
      go_wp2_with fail
      refine (put_c hTg Ab 16386 cb b1 hBg hbl (by omega) [[98]] okL3 ⟨#[1, 98, 0]⟩ rfl (by decide) kN_low true true (0, 16383, true) (by kernel_rfl) kN (by kernel_rfl) (b1 ++ [255, 255]) (out3 b1) 16388 (by rw [List.length_append, hbl]; rfl)).mono ?_
      rintro e wh ⟨Ah, ch, mbh, rfl, hCh, hTh, hBh, ho_, hm_⟩
      have hmbh := mbp hm_ hmbf hSg.out.size
      have hSh : Hid (Still w wh) := Lib.hid (hSg.out.trans ho_ (fun i hi e => e.elim (fun e => by omega) (fun e => by have := hmbf i e; omega)))
      clear ho_ hm_ hTg hSg hBg 
      go_wp2_with fail
      refine (put_c hTh Ab 16386 cb b1 hBh hbl (by omega) [[98]] okL3 ⟨#[1, 98, 0]⟩ rfl (by decide) kN_low false true (3, 0, false) (by kernel_rfl) kN (by kernel_rfl) (b1 ++ [1, 98, 0]) (out4 b1) 16389 (by rw [List.length_append, hbl]; rfl)).mono ?_
      rintro e wi ⟨Ai, ci, mbi, rfl, hDi, hTi, hBi, ho_, hm_⟩
      have hmbi := mbp hm_ hmbh hSh.out.size
      have hSi : Hid (Still w wi) := Lib.hid (hSh.out.trans ho_ (fun i hi e => e.elim (fun e => by omega) (fun e => by have := hmbh i e; omega)))
      have hCi := own_table hTh hCh ho_
      clear ho_ hm_ hTh hSh hBh hCh
      go_wp2_with fail
      refine (put_no _ tt Ab 16386 cb ⟨#[1, 98]⟩ (by decide) true true (by kernel_rfl)).mono ?_
      rintro e wj ⟨rfl, h_⟩
      have hTj := hTi.still h_
      have hBj := own_only hBi h_ (fun _ _ h => h)
      have hCj := own_only hCi h_ (fun _ _ h => h)
      have hDj := own_only hDi h_ (fun _ _ h => h)
      have hSj : Hid (Still w wj) := Lib.hid (hSi.out.still h_)
      clear h_ hTi hSi hBi hCi hDi
      go_wp2_with fail
      refine (put_nil _ none 0 0 ⟨#[0]⟩ true true).mono ?_
      rintro e wk ⟨rfl, h_⟩
      have hTk := hTj.still h_
      have hBk := own_only hBj h_ (fun _ _ h => h)
      have hCk := own_only hCj h_ (fun _ _ h => h)
      have hDk := own_only hDj h_ (fun _ _ h => h)
      have hSk : Hid (Still w wk) := Lib.hid (hSj.out.still h_)
      clear h_ hTj hSj hBj hCj hDj
      go_wp2_with fail
      refine (at_nil _ ⟨#[1, 97, 0]⟩).mono ?_
      rintro e wl ⟨rfl, h_⟩
      have hTl := hTk.still h_
      have hBl := own_only hBk h_ (fun _ _ h => h)
      have hCl := own_only hCk h_ (fun _ _ h => h)
      have hDl := own_only hDk h_ (fun _ _ h => h)
      have hSl : Hid (Still w wl) := Lib.hid (hSk.out.still h_)
      clear h_ hTk hSk hBk hCk hDk
      obtain ⟨gc, rfl⟩ := own_some hCl (by omega)
      obtain ⟨gd, rfl⟩ := own_some hDl (by omega)
      have hcc := own_cap hCl
      have hcd := own_cap hDl
      have cv1 := conv_suf (m := 2) (cc := ch - 16386) hCl hbl (x := [255, 255]) rfl
      have cv2 := conv_suf (m := 3) (cc := ci - 16386) hDl hbl (x := [1, 98, 0]) rfl
      rw [show mk [255, 255] = ⟨#[255, 255]⟩ from rfl] at cv1
      rw [show mk [1, 98, 0] = ⟨#[1, 98, 0]⟩ from rfl] at cv2
      have hn1 : ¬ ch = 16386 := by omega
      have hn2 : ¬ ci = 16386 := by omega
      clear hTl hBl hCl hDl
      go_wp2_with fail
      go_ret
      exact ⟨rfl, hSl.out⟩

end Go.Proofs.YtfhnfjfjmjopeaaDoor
