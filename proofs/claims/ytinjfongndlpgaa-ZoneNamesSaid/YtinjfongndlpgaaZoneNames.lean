/-
  ZoneNames.
-/
import Derived.Test.YtinjfongndlpgaaZoneBare
import Derived.Test.YtinjfongndlpgaaZoneMore
import Derived.Test.YtinjfongndlpgaaZoneOrd
namespace Go.Proofs.Ytinjfongndlpgaa
open Go.RowKit
set_option linter.unusedVariables false
set_option linter.unusedSimpArgs false

def zk (k : Nat) : Zn := ⟨mk [1, UInt8.ofNat (97 + k), 0], 1, 0⟩
theorem fld1 (a : ByteArray) (b c : Int) (w : World) : (Instr.field 35 (.agg #[.string a, .int .u8 b, .int .u16 c]) 1).run Try.prog w = .ok (.int .u8 b) w := by kernel_rfl
theorem fld2 (a : ByteArray) (b c : Int) (w : World) : (Instr.field 35 (.agg #[.string a, .int .u8 b, .int .u16 c]) 2).run Try.prog w = .ok (.int .u16 c) w := by kernel_rfl
theorem find_nil_ (w : World) (s : ByteArray) : Calls Try.prog 13 #[.pointer none, .string s] w fun e w' => e = .returned (.agg #[.string ⟨#[0]⟩, .int .u8 1, .int .u16 0]) ∧ Still w w' := find_nil w s
theorem find_bare_ (w : World) (t : Nat) (s : ByteArray) (hB : BareB w t) (hs : s.size ≤ 30000) (hv : findZ [] s = none0) : Calls Try.prog 13 #[.pointer (some ⟨t, 0, none⟩), .string s] w fun e w' => e = .returned (.agg #[.string ⟨#[0]⟩, .int .u8 1, .int .u16 0]) ∧ Still w w' := by
  refine (find_bare w t s hB hs).mono ?_
  rintro e w' ⟨rfl, h⟩
  exact ⟨by rw [hv]; rfl, h⟩
theorem zk_parts (k : Nat) (hk : k < 16) : ∃ (b : Nat) (X Y N : ByteArray), (97 : Int) + (k : Int) = (b : Int) ∧ IntKind.u8.wrap (b : Int) = (b : Int) ∧ (⟨#[1]⟩ : ByteArray) ++ X = Y ∧ Y ++ (⟨#[0]⟩ : ByteArray) = N ∧ X.size = 1 ∧ Y.size = 2 ∧ N.size = 3 ∧
    (∀ w : World, (convert 40 9 (.slice (some ⟨w.heap.size, 0, none⟩) 1 1)).run Try.prog (w.alloc (.cells #[.int .u8 (b : Int)] 5)) = .ok (.string X) (w.alloc (.cells #[.int .u8 (b : Int)] 5))) ∧ (⟨N, 1, 0⟩ : Zn) = zk k := by
  refine ⟨97 + k, mk [UInt8.ofNat (97 + k)], mk [1, UInt8.ofNat (97 + k)], mk [1, UInt8.ofNat (97 + k), 0], by omega, IntWalk.u8_in _ (by omega), rfl, rfl, rfl, rfl, rfl, fun w => ?_, rfl⟩
  refine of_bytes _ w.heap.size 1 [UInt8.ofNat (97 + k)] (fun j hj => ?_)
  have hj0 : j = 0 := by simp at hj; exact hj
  subst hj0
  rw [(Blk.new w 5 #[.int .u8 ((97 + k : Nat) : Int)]).cell]
  show some (Value.int .u8 ((97 + k : Nat) : Int)) = some (.int .u8 ((UInt8.ofNat (97 + k)).toNat : Int))
  rw [UInt8.toNat_ofNat_of_lt' (show 97 + k < 256 by omega)]

set_option maxRecDepth 1000000 in
set_option maxHeartbeats 6400000 in
theorem names_walk (w : World) : Calls Try.prog 4 #[] w fun e w' => e = .returned (.bool true) ∧ Still w w' := by
  obtain ⟨i0, hi, hz0, hz1, hz2⟩ := info_parts info_zn
  have eqz := eqz_refl
  have fld := fld_any
  have f1_ := fld1
  have f2_ := fld2
  go_enter Try.func4, Try.ntmps4
  go_wp2_with (go_at_call 10; refine (zone_awake _).mono ?_; rintro e w_ ⟨rfl, h_⟩)
  have hS := h_
  clear h_
  go_wp2_with fail
  refine (new_ok _ [⟨⟨#[0]⟩, 3, 5⟩, ⟨⟨#[2, 101, 120, 0]⟩, 4, 0⟩] _ 2 (by rfl) rfl (by decide) (okZ_of (by kernel_rfl)) (by kernel_rfl)).mono ?_
  rintro e w_ ⟨t1, rfl, hT1, h_⟩
  have hS := hS.still h_
  clear h_
  go_wp2_with fail
  refine (find_at (Z := [⟨⟨#[0]⟩, 3, 5⟩, ⟨⟨#[2, 101, 120, 0]⟩, 4, 0⟩]) ⟨#[0]⟩ ⟨⟨#[0]⟩, 3, 5⟩ hT1 (by decide) (by kernel_rfl)).mono ?_
  rintro e w_ ⟨rfl, h_⟩
  have hT1 := hT1.still h_
  have hS := hS.still h_
  clear h_
  go_wp2_with fail
  refine (find_at (Z := [⟨⟨#[0]⟩, 3, 5⟩, ⟨⟨#[2, 101, 120, 0]⟩, 4, 0⟩]) ⟨#[3, 99, 111, 109, 0]⟩ ⟨⟨#[0]⟩, 3, 5⟩ hT1 (by decide) (by kernel_rfl)).mono ?_
  rintro e w_ ⟨rfl, h_⟩
  have hT1 := hT1.still h_
  have hS := hS.still h_
  clear h_
  go_wp2_with fail
  refine (find_at (Z := [⟨⟨#[0]⟩, 3, 5⟩, ⟨⟨#[2, 101, 120, 0]⟩, 4, 0⟩]) ⟨#[1, 97, 2, 101, 120, 0]⟩ ⟨⟨#[2, 101, 120, 0]⟩, 4, 0⟩ hT1 (by decide) (by kernel_rfl)).mono ?_
  rintro e w_ ⟨rfl, h_⟩
  have hT1 := hT1.still h_
  have hS := hS.still h_
  clear h_
  go_wp2_with fail
  refine (find_at (Z := [⟨⟨#[0]⟩, 3, 5⟩, ⟨⟨#[2, 101, 120, 0]⟩, 4, 0⟩]) ⟨#[]⟩ ⟨⟨#[0]⟩, 1, 0⟩ hT1 (by decide) (by kernel_rfl)).mono ?_
  rintro e w_ ⟨rfl, h_⟩
  have hT1 := hT1.still h_
  have hS := hS.still h_
  clear h_
  go_wp2_with fail
  refine (none_any _).mono ?_
  rintro e w_ ⟨rfl, h_⟩
  have hT1 := hT1.still h_
  have hS := hS.still h_
  clear h_
  go_wp2_with fail
  refine (find_at (Z := [⟨⟨#[0]⟩, 3, 5⟩, ⟨⟨#[2, 101, 120, 0]⟩, 4, 0⟩]) ⟨#[101, 120]⟩ ⟨⟨#[0]⟩, 1, 0⟩ hT1 (by decide) (by kernel_rfl)).mono ?_
  rintro e w_ ⟨rfl, h_⟩
  have hT1 := hT1.still h_
  have hS := hS.still h_
  clear h_
  go_wp2_with fail
  refine (none_any _).mono ?_
  rintro e w_ ⟨rfl, h_⟩
  have hT1 := hT1.still h_
  have hS := hS.still h_
  clear h_
  clear hT1
  go_wp2_with fail
  go_loopw [3, 4] (fun i3 i4 wr => ∃ (k : Nat) (A : Option Addr) (c : Nat), k ≤ 16 ∧ i4 = .int .i64 k ∧ i3 = .slice A k c ∧ Still w wr ∧ wr.ownsRow w.heap.size 35 3 (.slice A k c) k (zRow ((List.range k).map zk))) (fun _ i4 _ => 16 - (intOf i4).toNat)
  case atStart => exact ⟨0, none, 0, Nat.zero_le _, rfl, rfl, hS, World.ownsRow_nil _ _ _ _⟩
  case round =>
    clear hS
    obtain ⟨k, A, c, hk, rfl, rfl, hst, hown⟩ := hrel
    by_cases hlt : k < 16
    · obtain ⟨b, X, Y, N, e0, e1, e2, e3, z1, z2, z3, cv, hN⟩ := zk_parts k hlt
      have hlt' : (k : Int) < 16 := by omega
      have hk1 : k + 1 ≤ 16 := hlt
      have hs1 := Still.new wr (.cells #[.int .u8 (b : Int)] 5)
      have hst1 := hst.still hs1
      have own1 := own_only hown hs1 (fun _ _ h => h)
      have cv1 := cv wr
      obtain ⟨w1, hw1⟩ : ∃ w1, w1 = wr.alloc (.cells #[.int .u8 (b : Int)] 5) := ⟨_, rfl⟩
      have Hw1 := Lib.hid hw1
      have hp_ := own1.alloc (.cells #[.string N, .int .u8 1, .int .u16 0] 35)
      have hrd := Reads.of_own (World.ownsRow_lit (e := 35) (size := 3) (base := 0) (wr.alloc (.cells #[.int .u8 (b : Int)] 5)) #[.string N, .int .u8 1, .int .u16 0] 1 (Nat.zero_le _) (by unfold maxLen; omega) rfl)
      rw [show (wr.alloc (.cells #[.int .u8 (b : Int)] 5)).heap.size = wr.heap.size + 1 by simp] at hrd
      have hss := hst1.alloc (.cells #[.string N, .int .u8 1, .int .u16 0] 35)
      have hzs := Lib.hid hss.size
      have HN := Lib.hid hN
      have hzz : ((wr.alloc (.cells #[.int .u8 (b : Int)] 5)).alloc (.cells #[.string N, .int .u8 1, .int .u16 0] 35)).heap.size = wr.heap.size + 1 + 1 := by simp
      have Hzz := Lib.hid hzz
      clear hs1 hst1 own1 cv hN hown hzz Hw1 hw1
      go_wp2_with (at_builtin; refine wpList_append_any _ rfl (.tmp 73) (.tmp 82) 22 rfl w.heap.size 35 i0 zNo 3 24 Try.underlying22 hi hz0 hz1 hz2 rfl (by decide) _ _ _ rfl hp_ _ (some _) 1 1 _ rfl hrd ?q1 ?q2 ?q3 ?q4 ?_)
      case q1 => first | exact ⟨rfl, rfl, rfl⟩ | exact zRow_one [⟨N, 1, 0⟩]
      case q2 => unfold maxLen; omega
      case q3 => omega
      case q4 => have := hzs.out; have := Hzz.out; first | omega | (simp; omega)
      intro v' wg hown' hgrow hblk
      obtain ⟨A', c', hv⟩ := own_shape hown'
      subst hv
      have hown' : wg.ownsRow w.heap.size 35 3 (.slice A' (k + 1) c') (k + 1) (zRow ((List.range (k + 1)).map zk)) := by
        rw [List.range_succ, List.map_append, zRow_append, List.map_singleton, ← HN.out]
        exact hown'
      have hst' := hss.grown hgrow (fun q hq => .inr (hp_.lt q hq).1)
      clear hp_ hrd hss hzs Hzz hgrow hblk hst e0 e1 e2 e3 cv1
      go_wp2_with fail
      go_roundw
      case rel => exact ⟨k + 1, A', c', hk1, by go_num, rfl, hst', hown'⟩
      case measure => simp [intOf]; omega
    · have hk' : k = 16 := by omega
      subst hk'
      have hS := hst
      clear hlt hk
      go_wp2_with fail
      refine (new_any _ A 16 c ((List.range 16).map zk) (by rfl) (Reads.of_own hown) (okZ_of (by kernel_rfl)) (by decide)).mono ?_
      rintro e w_ (⟨_, t2, rfl, _, h_⟩ | ⟨he, _⟩)
      rotate_left
      · exact absurd (by kernel_rfl) he.out
      have hown := own_only hown h_ (fun _ _ h => h)
      have hS := hS.still h_
      clear h_
      have hp_ := hown.alloc (.cells #[.string ⟨#[]⟩, .int .u8 0, .int .u16 0] 35)
      have hrd := Reads.of_own (World.ownsRow_lit (e := 35) (size := 3) (base := 0) w_ #[.string ⟨#[]⟩, .int .u8 0, .int .u16 0] 1 (Nat.zero_le _) (by unfold maxLen; omega) rfl)
      have hss := hS.alloc (.cells #[.string ⟨#[]⟩, .int .u8 0, .int .u16 0] 35)
      have hzs := Lib.hid hss.size
      clear hown hst hS
      go_wp2_with (at_builtin; refine wpList_append_any _ rfl (.tmp 90) (.tmp 92) 22 rfl w.heap.size 35 i0 zNo 3 24 Try.underlying22 hi hz0 hz1 hz2 rfl (by decide) _ _ _ rfl hp_ _ (some _) 1 1 _ rfl hrd ?q1 ?q2 ?q3 ?q4 ?_)
      case q1 => exact zRow_one [⟨⟨#[]⟩, 0, 0⟩]
      case q2 => unfold maxLen; omega
      case q3 => omega
      case q4 => have := hzs.out; first | omega | (simp at this ⊢; omega)
      intro v' wg hown' hgrow hblk
      obtain ⟨A', c', hv⟩ := own_shape hown'
      subst hv
      have hS := hss.grown hgrow (fun q hq => .inr (hp_.lt q hq).1)
      clear hp_ hrd hss hzs hgrow hblk
      go_wp2_with fail
      refine (new_any _ A' 17 c' ((List.range 16).map zk ++ [⟨⟨#[]⟩, 0, 0⟩]) (by rfl) (Reads.of_own (by rw [zRow_append]; exact hown')) (okZ_of (by kernel_rfl)) (by decide)).mono ?_
      rintro e w_ (⟨he, _⟩ | ⟨_, rfl, h_⟩)
      · exact absurd he.out (by rw [show errZ ((List.range 16).map zk ++ [⟨⟨#[]⟩, 0, 0⟩]) = 5 by kernel_rfl]; decide)
      rw [show errZ ((List.range 16).map zk ++ [⟨⟨#[]⟩, 0, 0⟩]) = 5 by kernel_rfl]
      have hS := hS.still h_
      clear h_
      clear hown'
      go_wp2_with fail
      refine (new_no _ [⟨⟨#[2, 101, 120, 0]⟩, 0, 0⟩] _ 1 3 (by rfl) rfl (by decide) (okZ_of (by kernel_rfl)) (by kernel_rfl) (by decide)).mono ?_
      rintro e w_ ⟨rfl, h_⟩
      have hS := hS.still h_
      clear h_
      go_wp2_with fail
      refine (new_no _ [⟨⟨#[2, 101, 120, 0]⟩, 5, 0⟩] _ 1 3 (by rfl) rfl (by decide) (okZ_of (by kernel_rfl)) (by kernel_rfl) (by decide)).mono ?_
      rintro e w_ ⟨rfl, h_⟩
      have hS := hS.still h_
      clear h_
      go_wp2_with fail
      refine (new_no _ [⟨⟨#[101, 120]⟩, 1, 0⟩] _ 1 3 (by rfl) rfl (by decide) (okZ_of (by kernel_rfl)) (by kernel_rfl) (by decide)).mono ?_
      rintro e w_ ⟨rfl, h_⟩
      have hS := hS.still h_
      clear h_
      go_wp2_with fail
      refine (new_no _ [⟨⟨#[2, 101, 120, 0]⟩, 1, 0⟩, ⟨⟨#[2, 101, 120, 0]⟩, 9, 0⟩] _ 2 3 (by rfl) rfl (by decide) (okZ_of (by kernel_rfl)) (by kernel_rfl) (by decide)).mono ?_
      rintro e w_ ⟨rfl, h_⟩
      have hS := hS.still h_
      clear h_
      go_wp2_with fail
      refine (new_any _ none 0 0 [] rfl Reads.none_ (fun z hz => by cases hz) (by decide)).mono ?_
      rintro e w_ (⟨_, t3, rfl, hT3, h_⟩ | ⟨he, _⟩)
      rotate_left
      · exact absurd (by kernel_rfl) he.out
      have hS := hS.still h_
      clear h_
      go_wp2_with fail
      refine (find_at (Z := []) ⟨#[2, 101, 120, 0]⟩ ⟨⟨#[0]⟩, 1, 0⟩ hT3 (by decide) (by kernel_rfl)).mono ?_
      rintro e w_ ⟨rfl, h_⟩
      have hT3 := hT3.still h_
      have hS := hS.still h_
      clear h_
      go_wp2_with fail
      refine (none_any _).mono ?_
      rintro e w_ ⟨rfl, h_⟩
      have hT3 := hT3.still h_
      have hS := hS.still h_
      clear h_
      go_wp2_with fail
      refine (len_any _ _ _ [] hT3 (by decide)).mono ?_
      rintro e w_ ⟨rfl, h_⟩
      have hS := hS.still h_
      clear h_
      clear hT3
      go_wp2_with fail
      refine (find_nil_ _ _).mono ?_
      rintro e w_ ⟨rfl, h_⟩
      have hS := hS.still h_
      clear h_
      go_wp2_with fail
      refine (none_any _).mono ?_
      rintro e w_ ⟨rfl, h_⟩
      have hS := hS.still h_
      clear h_
      go_wp2_with fail
      refine (len_nil _).mono ?_
      rintro e w_ ⟨rfl, h_⟩
      have hS := hS.still h_
      clear h_
      have hs_ := Still.new w_ (.cells #[.map none] 43)
      have hb_ := Blk.new w_ 43 #[.map none]
      have hS := hS.still hs_
      clear hs_
      go_wp2_with fail
      refine (find_bare_ _ _ _ ⟨hb_⟩ (by decide) (by kernel_rfl)).mono ?_
      rintro e w_ ⟨rfl, h_⟩
      have hS := hS.still h_
      clear h_
      go_wp2_with fail
      refine (none_any _).mono ?_
      rintro e w_ ⟨rfl, h_⟩
      have hS := hS.still h_
      clear h_
      go_wp2_with fail
      go_ret
      exact ⟨rfl, hS⟩
end Go.Proofs.Ytinjfongndlpgaa
