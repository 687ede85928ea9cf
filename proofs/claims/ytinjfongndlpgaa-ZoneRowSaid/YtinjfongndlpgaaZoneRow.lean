/-
  ZoneRow.
-/
import Derived.Test.YtinjfongndlpgaaZoneMore
import Derived.Test.YtinjfongndlpgaaZoneOrd
namespace Go.Proofs.Ytinjfongndlpgaa
open Go.RowKit
set_option linter.unusedVariables false
set_option linter.unusedSimpArgs false

set_option maxRecDepth 1000000 in
set_option maxHeartbeats 6400000 in
theorem row_walk (w : World) (A : Option Addr) (n c : Nat) (l : List Zn) (hnc : n ≤ c) (hcm : c ≤ maxLen) (hl : l.length = n) (hr : Reads w w.heap.size 3 A n (zRow l)) (hw : ∀ z ∈ l, okA z) (b : Int) (hb : (Lit.int .i64 b).wf = true) (s : ByteArray) (hs : s.size ≤ maxLen) :
    Calls Try.prog 6 #[.slice A n c, .int .i64 b, .string s] w fun e w' => e = .returned (.bool true) ∧ Still w w' := by
  have hn : n ≤ maxLen := Nat.le_trans hnc hcm
  have hs0 := Still.new w (.cells #[.string s] 9)
  have hb0 := Blk.new w 9 #[.string s]
  have hrl := (hr.only hs0 (Nat.le_refl _) (fun _ _ h => h)).more hs0.size
  have hrs : Reads (w.alloc (.cells #[.string s] 9)) (w.alloc (.cells #[.string s] 9)).heap.size 1 (some ⟨w.heap.size, 0, none⟩) 1 ([s].map .string) := reads_blk hb0 (by simp) rfl
  go_enter Try.func6, Try.ntmps6
  go_wp2_with fail
  refine (long18 _ A n c l hl hrl hn (fun z hz => (hw z hz).1) _ 1 1 [s] hrs (by unfold maxLen; omega) (by simp [hs])).mono ?_
  rintro e w2 (⟨rfl, h2⟩ | ⟨hok, rfl, h2⟩)
  · go_wp2_with (go_at_call 10; refine (zone_awake _).mono ?_; rintro e w3 ⟨rfl, h3⟩)
    go_ret
    exact ⟨rfl, hs0.still (h2.still h3)⟩
  · have hS2 := hs0.still h2
    clear hs0 hb0 hrl hrs h2
    go_wp2_with (go_at_call 10; refine (zone_awake _).mono ?_; rintro e w3 ⟨rfl, h3⟩)
    have hS3 := hS2.still h3
    have hr3 := hr.only hS3 (Nat.le_refl _) (fun _ _ h => h)
    obtain ⟨ho1, ho2, ho3, ho4⟩ := hok.out
    have s9 : s.size < 10000 := ho4 s (by simp)
    have ss : s.size ≤ 30000 := by omega
    have hokZ : ∀ z ∈ l, okZ z := fun z hz => ⟨by have := ho2 z hz; omega, (hw z hz).2⟩
    clear hS2 h3 hok ho2 ho3 ho4
    obtain ⟨d, hd⟩ : ∃ d, Hid (d = (b % 18446744073709551616).toNat % n) := ⟨_, Lib.hid rfl⟩
    obtain ⟨i0, hi, hz0, hz1, hz2⟩ := info_parts info_zn
    have eqz := eqz_refl
    have HS3Z : Hid (w.heap.size ≤ w3.heap.size) := Lib.hid hS3.size
    go_wp2_with fail
    go_loopw [7, 8, 9] (fun i7 i8 i9 wr => ∃ (k : Nat) (A1 A2 : Option Addr) (c1 c2 : Nat), k ≤ n ∧ i9 = .int .i64 k ∧ i7 = .slice A1 k c1 ∧ i8 = .slice A2 k c2 ∧ Still w wr ∧ Hid (w3.heap.size ≤ wr.heap.size) ∧ wr.ownsRow w3.heap.size 35 3 (.slice A1 k c1) k (zRow ((rotL l d).take k)) ∧ wr.ownsRow w3.heap.size 35 3 (.slice A2 k c2) k (zRow (l.reverse.take k)) ∧ Hid (Sep (.slice A1 k c1) (.slice A2 k c2))) (fun _ _ i9 _ => n - (intOf i9).toNat)
    case atStart =>
      refine ⟨0, none, none, 0, 0, Nat.zero_le _, rfl, rfl, rfl, hS3, Lib.hid (Nat.le_refl _), ?_, ?_, Lib.hid sep_none⟩
      · exact World.ownsRow_nil _ _ _ _
      · exact World.ownsRow_nil _ _ _ _
    case round =>
      obtain ⟨k, A1, A2, c1, c2, hk, rfl, rfl, rfl, hst, hsz, own1, own2, hsep⟩ := hrel
      by_cases hlt : k < n
      · have hn0 : 0 < n := by omega
        obtain ⟨x, m, r, hmn, hrn, w1, w2_, w3_, e1, t1, t2⟩ := rot_facts l b n k d hl hd.out ho1 hlt
        have hmod : (IntKind.u64.wrap b).tmod (n : Int) = (d : Int) := (u64_mod b n).trans (congrArg Nat.cast hd.out.symm)
        have hk1 : k + 1 ≤ n := hlt
        have hrr := hr.only hst (Nat.le_refl _) (fun _ _ h => h)
        obtain ⟨bl, off, z, hA, hbl, hlk, hz, x0, x1, x2⟩ := z3_cells hrr hl hmn
        have Ht1 := Lib.hid (t1 z hlk)
        have Ht2 := Lib.hid t2
        subst hA
        clear hlk hz hbl hrr t1 t2
        have hp_ := own1.alloc (.cells #[.string z.nm, .int .u8 z.pol, .int .u16 z.tr] 35)
        have ho_ := own2.alloc (.cells #[.string z.nm, .int .u8 z.pol, .int .u16 z.tr] 35)
        have hrd := Reads.of_own (World.ownsRow_lit (e := 35) (size := 3) (base := 0) wr #[.string z.nm, .int .u8 z.pol, .int .u16 z.tr] 1 (Nat.zero_le _) (by unfold maxLen; omega) rfl)
        have hss := hst.alloc (.cells #[.string z.nm, .int .u8 z.pol, .int .u16 z.tr] 35)
        have hza : (wr.alloc (.cells #[.string z.nm, .int .u8 z.pol, .int .u16 z.tr] 35)).heap.size = wr.heap.size + 1 := by simp
        have HZA := Lib.hid hza
        have hss0 := Lib.hid hsz.out
        clear hza
        go_wp2_with (at_builtin; refine wpList_append_any _ rfl (.tmp 31) (.tmp 47) 22 rfl w3.heap.size 35 i0 zNo 3 24 Try.underlying22 hi hz0 hz1 hz2 rfl (by decide) _ _ _ rfl hp_ _ (some _) 1 1 _ rfl hrd ?q1 ?q2 ?q3 ?q4 ?_)
        case q1 => exact ⟨rfl, rfl, rfl⟩
        case q2 => unfold maxLen; omega
        case q3 => omega
        case q4 => have := HZA.out; have := hss0.out; omega
        intro v' wg_ hown' hgrow hblk
        obtain ⟨A_, c_, hv⟩ := own_shape hown'
        subst hv
        have hown' : wg_.ownsRow w3.heap.size 35 3 (.slice A_ (k + 1) c_) (k + 1) (zRow ((rotL l d).take (k + 1))) := by
          rw [Ht1.out, zRow_append]
          exact hown'
        have hoth' := own_beside ho_ hgrow hsep.out.symm
        have hst' := hss.grown hgrow (fun q hq => .inr (Nat.le_trans HS3Z.out (hp_.lt q hq).1))
        have hsep' : Hid (Sep (.slice A_ (k + 1) c_) (.slice A2 k c2)) := Lib.hid (Sep.grow hsep.out hblk (fun q hq => by have := (ho_.lt q hq).2; have := HZA.out; omega))
        have hsz' : Hid (w3.heap.size ≤ wg_.heap.size) := Lib.hid (by have h1 := hgrow.size; have := HZA.out; have := hsz.out; omega)
        clear hp_ ho_ hrd hss HZA hss0 hgrow hblk hst own1 own2 hsep hsz
        clear x0 x1 x2 w1 w2_ w3_ hmod
        have hrr := hr.only hst' (Nat.le_refl _) (fun _ _ h => h)
        obtain ⟨bl', off', z', hA', hbl', hlk', hz', y0, y1, y2⟩ := z3_cells hrr hl hrn
        cases hA'
        have Ht2 := Lib.hid (Ht2.out z' hlk')
        clear hlk' hz' hbl' hrr
        have hst := hst'
        have hsz := hsz'
        have hsep := hsep'
        have own1 := hown'
        have own2 := hoth'
        clear hst' hsz' hsep' hown' hoth'
        have hp_ := own2.alloc (.cells #[.string z'.nm, .int .u8 z'.pol, .int .u16 z'.tr] 35)
        have ho_ := own1.alloc (.cells #[.string z'.nm, .int .u8 z'.pol, .int .u16 z'.tr] 35)
        have hrd := Reads.of_own (World.ownsRow_lit (e := 35) (size := 3) (base := 0) wg_ #[.string z'.nm, .int .u8 z'.pol, .int .u16 z'.tr] 1 (Nat.zero_le _) (by unfold maxLen; omega) rfl)
        have hss := hst.alloc (.cells #[.string z'.nm, .int .u8 z'.pol, .int .u16 z'.tr] 35)
        have hza : (wg_.alloc (.cells #[.string z'.nm, .int .u8 z'.pol, .int .u16 z'.tr] 35)).heap.size = wg_.heap.size + 1 := by simp
        have HZA := Lib.hid hza
        have hss0 := Lib.hid hsz.out
        clear hza
        go_wp2_with (at_builtin; refine wpList_append_any _ rfl (.tmp 49) (.tmp 58) 22 rfl w3.heap.size 35 i0 zNo 3 24 Try.underlying22 hi hz0 hz1 hz2 rfl (by decide) _ _ _ rfl hp_ _ (some _) 1 1 _ rfl hrd ?q1 ?q2 ?q3 ?q4 ?_)
        case q1 => exact ⟨rfl, rfl, rfl⟩
        case q2 => unfold maxLen; omega
        case q3 => omega
        case q4 => have := HZA.out; have := hss0.out; omega
        intro v' wh_ hown' hgrow hblk
        obtain ⟨A__, c__, hv⟩ := own_shape hown'
        subst hv
        have hown' : wh_.ownsRow w3.heap.size 35 3 (.slice A__ (k + 1) c__) (k + 1) (zRow (l.reverse.take (k + 1))) := by
          rw [Ht2.out, zRow_append]
          exact hown'
        have hoth' := own_beside ho_ hgrow hsep.out.symm.symm
        have hst' := hss.grown hgrow (fun q hq => .inr (Nat.le_trans HS3Z.out (hp_.lt q hq).1))
        have hsep' : Hid (Sep (.slice A__ (k + 1) c__) (.slice A_ (k + 1) c_)) := Lib.hid (Sep.grow hsep.out.symm hblk (fun q hq => by have := (ho_.lt q hq).2; have := HZA.out; omega))
        have hsz' : Hid (w3.heap.size ≤ wh_.heap.size) := Lib.hid (by have h1 := hgrow.size; have := HZA.out; have := hsz.out; omega)
        clear hp_ ho_ hrd hss HZA hss0 hgrow hblk hst own2 own1 hsep hsz
        clear y0 y1 y2 e1
        go_wp2_with fail
        go_roundw
        case rel => exact ⟨k + 1, A_, A__, c_, c__, hk1, by go_num, rfl, rfl, hst', hsz', hoth', hown', Lib.hid hsep'.out.symm⟩
        case measure => simp [intOf]; omega
      · have hkn : k = n := by omega
        subst hkn
        have p1 := rotL_perm l d
        have p2 := List.reverse_perm l
        have f1 : (rotL l d).take k = rotL l d := List.take_of_length_le (by rw [p1.length_eq]; omega)
        have f2 : l.reverse.take k = l.reverse := List.take_of_length_le (by rw [p2.length_eq]; omega)
        rw [f1] at own1
        rw [f2] at own2
        clear f1 f2
        have ok1 : ∀ z ∈ rotL l d, okZ z := fun z hz => hokZ z (p1.mem_iff.1 hz)
        have ok2 : ∀ z ∈ l.reverse, okZ z := fun z hz => hokZ z (p2.mem_iff.1 hz)
        have g1 : errZ (rotL l d) = 0 ↔ errZ l = 0 := errZ_perm p1
        have g2 : errZ l.reverse = 0 ↔ errZ l = 0 := errZ_perm p2
        have n1 : (rotL l d).length = k := by rw [p1.length_eq, hl]
        have n2 : l.reverse.length = k := by rw [p2.length_eq, hl]
        have hrr := (hr.only hst (Nat.le_refl _) (fun _ _ h => h)).more hst.size
        go_wp2_with fail
        by_cases hE : errZ l = 0
        · have hE1 := g1.2 hE
          have hE2 := g2.2 hE
          have O0 := ((errZ_ok l).1 hE).2
          have O1 := ((errZ_ok _).1 hE1).2
          have O2 := ((errZ_ok _).1 hE2).2
          obtain ⟨v, hv⟩ : ∃ v, v = findZ l s := ⟨_, rfl⟩
          have V0 : findZ l s = v := hv.symm
          have V1 : findZ (rotL l d) s = v := (findZ_perm p1 O1 O0 s).trans V0
          have V2 : findZ l.reverse s = v := (findZ_perm p2 O2 O0 s).trans V0
          clear hv O0 O1 O2 g1 g2 p1 p2 hsep hsz hr hr3
          refine (new_any wr A k c l hl hrr hokZ (by omega)).mono ?_
          rintro e w4 (⟨_, ta, rfl, hTa, h4⟩ | ⟨he, _, _⟩)
          rotate_left
          · exact absurd hE he.out
          have hTa := hTa.lower (Nat.zero_le _)
          have own1 := own_only own1 h4 (fun _ _ h => h)
          have own2 := own_only own2 h4 (fun _ _ h => h)
          have hst := hst.still h4
          clear hE hrr h4
          go_wp2_with fail
          refine (new_any w4 A1 k c1 _ n1 (Reads.of_own own1) ok1 (by omega)).mono ?_
          rintro e w5 (⟨_, tb, rfl, hTb, h5⟩ | ⟨he, _, _⟩)
          rotate_left
          · exact absurd hE1 he.out
          have hTb := hTb.lower (Nat.zero_le _)
          have hTa := hTa.still h5
          have own2 := own_only own2 h5 (fun _ _ h => h)
          have hst := hst.still h5
          clear hE1 own1 h5 ok1
          go_wp2_with fail
          refine (new_any w5 A2 k c2 _ n2 (Reads.of_own own2) ok2 (by omega)).mono ?_
          rintro e w6 (⟨_, tc, rfl, hTc, h6⟩ | ⟨he, _, _⟩)
          rotate_left
          · exact absurd hE2 he.out
          have hTc := hTc.lower (Nat.zero_le _)
          have hTa := hTa.still h6
          have hTb := hTb.still h6
          have hst := hst.still h6
          have hl' := Lib.hid hl
          have n1' := Lib.hid n1
          clear hE2 own2 h6 ok2 hl n1 n2
          go_wp2_with (first | (go_at_call 13; refine (find_at s v (by assumption) ss (by assumption)).mono ?_; rintro e w7 ⟨rfl, h7⟩; have hTa := hTa.still h7; have hTb := hTb.still h7; have hTc := hTc.still h7; have hst := hst.still h7; clear h7) | (go_at_call 15; refine (len_any _ _ _ _ (by assumption) (by have := hl'.out; have := n1'.out; omega)).mono ?_; rintro e w7 ⟨rfl, h7⟩; (first | rw [hl'.out] | rw [n1'.out]); have hTa := hTa.still h7; have hTb := hTb.still h7; have hst := hst.still h7; clear h7))
          go_ret
          exact ⟨rfl, hst⟩
        · have hE1 : ¬ errZ (rotL l d) = 0 := fun h => hE (g1.1 h)
          have hE2 : ¬ errZ l.reverse = 0 := fun h => hE (g2.1 h)
          clear g1 g2 p1 p2 hsep hsz hr hr3
          refine (new_any wr A k c l hl hrr hokZ (by omega)).mono ?_
          rintro e w4 (⟨he, _⟩ | ⟨_, rfl, h4⟩)
          · exact absurd he.out hE
          have own1 := own_only own1 h4 (fun _ _ h => h)
          have own2 := own_only own2 h4 (fun _ _ h => h)
          have hst := hst.still h4
          generalize errZ l = m at hE ⊢
          have hd0 : decide ((m : Int) = 0) = false := decide_eq_false (by omega)
          have hd1 : ((m : Int) == 0) = false := by rw [beq_eq_false_iff_ne]; omega
          clear hrr h4
          go_wp2_with fail
          refine (new_any w4 A1 k c1 _ n1 (Reads.of_own own1) ok1 (by omega)).mono ?_
          rintro e w5 (⟨he, _⟩ | ⟨_, rfl, h5⟩)
          · exact absurd he.out hE1
          have own2 := own_only own2 h5 (fun _ _ h => h)
          have hst := hst.still h5
          generalize errZ (rotL l d) = m1 at hE1 ⊢
          have hd2 : decide ((m1 : Int) = 0) = false := decide_eq_false (by omega)
          have hd3 : ((m1 : Int) == 0) = false := by rw [beq_eq_false_iff_ne]; omega
          clear own1 h5 ok1
          go_wp2_with fail
          refine (new_any w5 A2 k c2 _ n2 (Reads.of_own own2) ok2 (by omega)).mono ?_
          rintro e w6 (⟨he, _⟩ | ⟨_, rfl, h6⟩)
          · exact absurd he.out hE2
          have hst := hst.still h6
          generalize errZ l.reverse = m2 at hE2 ⊢
          have hd4 : decide ((m2 : Int) = 0) = false := decide_eq_false (by omega)
          have hd5 : ((m2 : Int) == 0) = false := by rw [beq_eq_false_iff_ne]; omega
          clear own2 h6 ok2
          go_wp2_with fail
          go_ret
          exact ⟨rfl, hst⟩
end Go.Proofs.Ytinjfongndlpgaa
