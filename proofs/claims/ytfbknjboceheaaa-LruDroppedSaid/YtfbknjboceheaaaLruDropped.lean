/-
  LruDropped: what is used and dropped at once leaves all others as they were; for every list that acts make, and every place.
-/
import Derived.Test.YtfbknjboceheaaaLruMore
import Derived.Test.YtfbknjboceheaaaGuard
namespace Go.Proofs.Ytfbknjboceheaaa
open Go.RowKit
set_option linter.unusedVariables false

set_option maxRecDepth 1000000 in
set_option maxHeartbeats 6400000 in
theorem dropped_walk (w : World) (n : Int) (C : Option Addr) (m cc : Nat) (l : List (Int × Int)) (hm : m ≤ 1000) (hl : l.length = m) (hr : Reads w w.heap.size 2 C m (actCells l))
    (hw : ∀ p ∈ l, (Lit.int .u8 p.1).wf = true ∧ (Lit.int .i64 p.2).wf = true) (pl : Int) :
    Calls Try.prog 7 #[.int .i64 n, .slice C m cc, .int .i64 pl] w fun e w' => e = .returned (.bool true) ∧ Still w w' := by
  have h1000 : ¬ (1000 : Int) < (m : Int) := by omega
  have Hl := Lib.hid hl
  have Hw := Lib.hid hw
  clear hl hw
  obtain ⟨i0, hi, hz0, hz1, hz2⟩ := info_parts info_int
  go_enter Try.func7, Try.ntmps7
  go_wp2_with fail
  refine (lru_awake _).mono ?_
  rintro e w0 ⟨rfl, ho0⟩
  have hr0 := hr.only ho0 (Nat.le_refl _) (fun _ _ h => h)
  go_wp2_with fail
  refine (made_any n C m cc l (by omega) Hl.out (hr0.more ho0.size) Hw.out).mono ?_
  rintro e w1 ⟨g, K, rfl, hK1, hK2, hg, hb1, hs1⟩
  have hgw : w.heap.size ≤ g := by have := ho0.size; omega
  have hst1 := ho0.still hs1
  have hlk := doActs_ok hK2 l
  generalize doActs K l = L at hb1 hlk
  clear hr hr0 ho0 hs1 hg
  obtain ⟨P, hP⟩ : ∃ P : Nat, (P : Int) = IntKind.u64.wrap pl % (K : Int) := ⟨(IntKind.u64.wrap pl % (K : Int)).toNat, by
    have := Int.emod_nonneg (IntKind.u64.wrap pl) (b := (K : Int)) (by omega); omega⟩
  have hPK : P < K := by have := Int.emod_lt_of_pos (IntKind.u64.wrap pl) (b := (K : Int)) (by omega); omega
  have hP' : (IntKind.u64.wrap pl).tmod (K : Int) = (P : Int) := by
    rw [hP, Int.tmod_eq_emod_of_nonneg (by rw [IntKind.wrap_u64]; omega)]
  clear hP
  have hK0 : ((K : Int) == 0) = false := by simp; omega
  have hLl := hlk.length_le
  go_wp2_with fail
  refine (Has_in hb1 hlk P (P + 1) rfl hPK).mono ?_
  rintro e w2 ⟨rfl, rfl⟩
  go_wp2_with fail
  refine (Row_any hb1 hlk).mono ?_
  rintro e w2 ⟨A, c, rfl, hown, hs2⟩
  have hb2 := hb1.still hs2
  have hst2 := hst1.still hs2
  have hrow := Reads.of_own hown
  have hg2 : g < w2.heap.size := Blk.lt hb2
  clear hst1 hs2 hb1 hown
  go_wp2_with fail
  go_loopw [11, 12] (fun v i wr => ∃ k : Nat, k ≤ L.length ∧ i = .int .i64 k ∧ wr.ownsRow w2.heap.size 3 1 v (flt P ((toInts L).take k)).length ((flt P ((toInts L).take k)).map (.int .i64)) ∧ Hid (Still w2 wr)) (fun _ i _ => L.length - (intOf i).toNat)
  case atStart => exact ⟨0, by omega, rfl, World.ownsRow_nil _ _ _ _, Lib.hid (Only.refl _ _)⟩
  case round =>
    obtain ⟨k, hk, rfl, hown, hst⟩ := hrel
    have hrr := hrow.only hst.out (Nat.le_refl _) (fun _ _ h => h)
    by_cases hlt : k < L.length
    · obtain ⟨ad, x, rfl, had, hxk, hcx⟩ := reads_int hrr hlt
      by_cases hxP : x = P
      · have hsn := flt_drop hxk hxP
        subst hxP
        have Hsn := Lib.hid hsn
        clear hsn hxk hrr
        go_wp2_with fail
        go_roundw
        case rel => exact ⟨k + 1, by omega, by go_num, by rw [Hsn.out]; exact hown, hst⟩
        case measure => simp [intOf]; omega
      · have hsn := flt_keep hxk hxP
        have hne : (x != (P : Int)) = true := by simp [hxP]
        have Hsn := Lib.hid hsn
        have Hne := Lib.hid hxP
        have hfl := flt_le P ((toInts L).take k)
        have htk : ((toInts L).take k).length ≤ k := List.length_take_le _ _
        have hsz := hst.out.size
        have hp1 := hown.alloc (.cells #[.int .i64 x] 3)
        have hrd := reads_made wr 3 .i64 [x] 1 rfl
        clear hsn hxk hrr hxP
        go_wp2_with (at_builtin; refine wpList_append_any _ rfl (.tmp 51) (.tmp 56) 36 rfl w2.heap.size 3 i0 (.int .i64 0) 1 8 Try.underlying36 hi hz0 hz1 hz2 rfl (by decide) _ _ _ rfl hp1 (wr.heap.size + 1) (some ⟨wr.heap.size, 0, none⟩) 1 1 _ rfl hrd ?c1 ?c2 ?c3 ?c4 ?_)
        case c1 => intro u hu; simp at hu; subst hu; rfl
        case c2 => unfold maxLen; omega
        case c3 => omega
        case c4 => simp; omega
        intro v' w' hown' hgrow hblk
        have hst' : Still w2 w' := (hst.out.alloc _).grown hgrow (fun k hk => .inr (hown.lt k hk).1)
        obtain ⟨A', c', hv⟩ := own_shape hown'
        subst hv
        go_wp2_with fail
        go_roundw
        case rel =>
          refine ⟨k + 1, by omega, by go_num, ?_, Lib.hid hst'⟩
          rw [Hsn.out, List.length_append, List.map_append]
          exact hown'
        case measure => simp [intOf]; omega
    · obtain rfl : L.length = k := by omega
      rw [List.take_of_length_le (by rw [toInts_length]; exact Nat.le_refl _)] at hown
      obtain ⟨A3, c3, rfl⟩ := own_shape hown
      have hb3 := hb2.still hst.out
      have hst3 := hst2.still hst.out
      have hlo := hlk.out (P + 1)
      have hfo := flt_out P L
      have hfl := flt_le P (toInts L)
      rw [toInts_length] at hfl
      have hlol : (out (P + 1) L).length = (flt P (toInts L)).length := by rw [← hfo, toInts_length]
      have Hfo := Lib.hid hfo
      have Hlol := Lib.hid hlol
      generalize hR : flt P (toInts L) = R at *
      have HR := Lib.hid hR
      clear hR hfo hlol hrr hrow hb2 hst2 hst
      have hnot : decide (P + 1 ∈ out (P + 1) L) = false := decide_eq_false (out_not _ _)
      have hin : decide (P + 1 ∈ out (P + 1) L ++ [P + 1]) = true := decide_eq_true (by simp)
      have htwice : out (P + 1) (out (P + 1) L) = out (P + 1) L := by simp [out]
      have hback : out (P + 1) (out (P + 1) L ++ [P + 1]) = out (P + 1) L := by simp [out]
      have hpi : toInts (out (P + 1) L ++ [P + 1]) = R ++ [(P : Int)] := by rw [toInts_snoc, Hfo.out]
      have hlu := hlk.used (p := P + 1) (by omega) (by omega)
      have hrl : R.length ≤ 1000000000000 := by omega
      have hb2lt : g < w2.heap.size := hg2
      generalize hO : out (P + 1) L = O at *
      have HO := Lib.hid hO
      have Hnot := Lib.hid hnot
      have Hin := Lib.hid hin
      have Htwice := Lib.hid htwice
      have Hback := Lib.hid hback
      have Hpi := Lib.hid hpi
      clear hnot hO hin htwice hback hpi
      have hUl : (O ++ [P + 1]).length = R.length + 1 := by rw [List.length_append, Hlol.out]; rfl
      have HUl := Lib.hid hUl
      clear hUl
      go_wp2_with fail
      refine (Copy_any hb3).mono ?_
      rintro e w4 ⟨g4, rfl, hg4, hc4, hs4⟩
      have hb4 := hb3.still hs4
      have hst4 := hst3.still hs4
      have hgg4 : g < g4 := by have := Blk.lt hb3; omega
      have hown4 := own_only hown hs4 (fun _ _ h => h)
      have hog : ∀ k, (Value.slice A3 R.length c3).ownBlock = some k → k < g4 ∧ k ≠ g := fun k hk => by have := hown.lt k hk; omega
      have Hog := Lib.hid hog
      have hg4w : w.heap.size ≤ g4 := by have := hst3.size; omega
      clear hog hb3 hst3 hown hs4 hg4
      go_wp2_with fail
      refine (Drop_in hc4 hlk P (P + 1) rfl hPK).mono ?_
      rintro e w5 ⟨rfl, hc5, ho5⟩
      rw [HO.out] at hc5
      have hst5 := Still.only hst4 ho5 hg4w
      have hb5 : Lst w5 g K L := Blk.only hb4 ho5 (by omega)
      have hown5 := own_only hown4 ho5 (fun k hk e => by have := Hog.out k hk; omega)
      clear hc4 hst4 hb4 hown4 ho5
      go_wp2_with fail
      refine (Has_in hc5 hlo P (P + 1) rfl hPK).mono ?_
      rintro e w6 ⟨he, rfl⟩
      rw [Hnot.out] at he
      subst he
      go_wp2_with fail
      refine (Drop_in hc5 hlo P (P + 1) rfl hPK).mono ?_
      rintro e w6 ⟨he, hc6, ho6⟩
      rw [Hnot.out] at he
      subst he
      rw [Htwice.out] at hc6
      have hst6 := Still.only hst5 ho6 hg4w
      have hb6 : Lst w6 g K L := Blk.only hb5 ho6 (by omega)
      have hown6 := own_only hown5 ho6 (fun k hk e => by have := Hog.out k hk; omega)
      clear hc5 hst5 hb5 hown5 ho6
      go_wp2_with fail
      refine (Row_any hc6 hlo).mono ?_
      rintro e w7 ⟨A7, c7, rfl, hown7, hs7⟩
      rw [Hlol.out, Hfo.out] at hown7
      rw [Hlol.out]
      have hst7 := hst6.still hs7
      have hb7 := hb6.still hs7
      have hown8 := own_only hown6 hs7 (fun _ _ h => h)
      clear hc6 hst6 hb6 hown6 hs7
      go_wp2_with fail
      refine (ints_any A7 A3 R.length c7 R.length c3 _ _ _ _ _ (Reads.of_own hown7) (Reads.of_own hown8) hrl hrl).mono ?_
      rintro e w8 ⟨rfl, q, rfl⟩
      have hb8 : Lst _ g K L := Blk.drewN hb7 q
      have hst8 := hst7.drewN q
      have hown9 : (w7.drewN q).ownsRow _ 3 1 (.slice A3 R.length c3) R.length _ := own_only hown8 ((Only.refl (fun _ => False) w7).drewN q) (fun _ _ h => h)
      generalize w7.drewN q = w8 at *
      clear hb7 hst7 hown8 hown7
      go_wp2_with fail
      refine (Use_in hb8 hlk P (P + 1) rfl hPK).mono ?_
      rintro e w9 ⟨rfl, hb9, ho9⟩
      rw [HO.out] at hb9
      have hst9 := Still.only hst8 ho9 hgw
      have hown10 := own_only hown9 ho9 (fun k hk e => by have := Hog.out k hk; omega)
      clear hb8 hst8 hown9 ho9
      go_wp2_with fail
      refine (Row_any hb9 hlu).mono ?_
      rintro e w10 ⟨A10, c10, rfl, hown11, hs10⟩
      rw [HUl.out, Hpi.out] at hown11
      rw [HUl.out]
      have hst10 := hst9.still hs10
      have hb10 := hb9.still hs10
      have hown12 := own_only hown10 hs10 (fun _ _ h => h)
      clear hst9 hb9 hown10 hs10
      have hown0 := World.ownsRow_made (base := w10.heap.size) (e := 3) (size := 1) w10 #[] 0 (Nat.le_refl _) (by unfold maxLen; omega) rfl
      have hrest := (Reads.of_own hown12).alloc (Nat.le_refl _) (.cells #[] 3)
      go_wp2_with (at_builtin; refine wpList_append_any_if _ rfl (.tmp 89) (.tmp 90) 36 rfl w10.heap.size 3 i0 (.int .i64 0) 1 8 Try.underlying36 hi hz0 hz1 hz2 rfl (by decide) _ 0 [] rfl hown0 w10.heap.size A3 R.length c3 _ rfl hrest ?c1 ?c2 ?c3 ?c4 ?_)
      case c1 => intro u hu; simp at hu; obtain ⟨x, _, rfl⟩ := hu; rfl
      case c2 => unfold maxLen; omega
      case c3 => omega
      case c4 => simp
      intro v11 w11 hown13 hgrow11 hblk11
      have hs11 : Still w10 w11 := (Still.new w10 (.cells #[] 3)).grown hgrow11 (fun k hk => .inr (by simp [Value.ownBlock] at hk; omega))
      have hown13' : w11.ownsRow w10.heap.size 3 1 v11 R.length (R.map (.int .i64)) := by simpa using hown13
      obtain ⟨A11, c11, rfl⟩ := own_shape hown13'
      have hp1 := hown13'.alloc (.cells #[.int .i64 (P : Int)] 3)
      have hrd := reads_made w11 3 .i64 [(P : Int)] 1 rfl
      clear hown13 hgrow11 hblk11 hown0 hrest
      go_wp2_with (at_builtin; refine wpList_append_any_if _ rfl (.tmp 91) (.tmp 93) 36 rfl w10.heap.size 3 i0 (.int .i64 0) 1 8 Try.underlying36 hi hz0 hz1 hz2 rfl (by decide) _ _ _ rfl hp1 (w11.heap.size + 1) (some ⟨w11.heap.size, 0, none⟩) 1 1 _ rfl hrd ?d1 ?d2 ?d3 ?d4 ?_)
      case d1 => intro u hu; simp at hu; subst hu; rfl
      case d2 => unfold maxLen; omega
      case d3 => omega
      case d4 => have := hs11.size; simp; omega
      intro v12 w12 hown14 hgrow12 hblk12
      have hs12 : Still w10 w12 := (hs11.alloc _).grown hgrow12 (fun k hk => .inr (hown13'.lt k hk).1)
      have hown15 : w12.ownsRow w10.heap.size 3 1 v12 (R.length + 1) ((R ++ [(P : Int)]).map (.int .i64)) := by rw [List.map_append]; exact hown14
      obtain ⟨A12, c12, rfl⟩ := own_shape hown15
      have hst12 := hst10.still hs12
      have hb12 := hb10.still hs12
      have hown16 := own_only hown11 hs12 (fun _ _ h => h)
      have hown17 := own_only hown12 hs12 (fun _ _ h => h)
      clear hst10 hb10 hown11 hown12 hs11 hs12 hown13' hown14 hgrow12 hblk12 hp1 hrd
      go_wp2_with fail
      refine (ints_any A10 A12 (R.length + 1) c10 (R.length + 1) c12 _ _ _ _ _ (Reads.of_own hown16) (Reads.of_own hown15) (by omega) (by omega)).mono ?_
      rintro e w13 ⟨rfl, q2, rfl⟩
      have hb13 : Lst _ g K _ := Blk.drewN hb12 q2
      have hst13 := hst12.drewN q2
      have hown18 : (w12.drewN q2).ownsRow _ 3 1 (.slice A3 R.length c3) R.length _ := own_only hown17 ((Only.refl (fun _ => False) w12).drewN q2) (fun _ _ h => h)
      generalize w12.drewN q2 = w13 at *
      clear hb12 hst12 hown16 hown17 hown15
      go_wp2_with fail
      refine (Drop_in hb13 hlu P (P + 1) rfl hPK).mono ?_
      rintro e w14 ⟨he, hb14, ho14⟩
      rw [Hin.out] at he
      subst he
      rw [Hback.out] at hb14
      have hst14 := Still.only hst13 ho14 hgw
      have hown19 := own_only hown18 ho14 (fun k hk e => by have := Hog.out k hk; omega)
      clear hb13 hst13 hown18 ho14
      go_wp2_with fail
      refine (Row_any hb14 hlo).mono ?_
      rintro e w15 ⟨A15, c15, rfl, hown20, hs15⟩
      rw [Hlol.out, Hfo.out] at hown20
      rw [Hlol.out]
      have hst15 := hst14.still hs15
      have hown21 := own_only hown19 hs15 (fun _ _ h => h)
      clear hb14 hst14 hown19 hs15
      go_wp2_with fail
      refine (ints_any A15 A3 R.length c15 R.length c3 _ _ _ _ _ (Reads.of_own hown20) (Reads.of_own hown21) hrl hrl).mono ?_
      rintro e w16 ⟨rfl, q3, rfl⟩
      go_wp2_with fail
      go_ret
      exact ⟨rfl, hst15.drewN q3⟩

theorem dropped_long (w : World) (n : Int) (C : Option Addr) (m cc : Nat) (pl : Int) (h : 1000 < m) :
    Calls Try.prog 7 #[.int .i64 n, .slice C m cc, .int .i64 pl] w fun e w' => e = .returned (.bool true) ∧ Still w w' := by
  have h5 : (1000 : Int) < (m : Int) := by omega
  go_enter Try.func7, Try.ntmps7
  go_wp2_with fail
  refine (lru_awake _).mono ?_
  rintro e w0 ⟨rfl, ho0⟩
  go_wp2
  go_ret
  exact ⟨rfl, ho0⟩

theorem dropped_all (w : World) (n : Int) (wf : (Lit.int .i64 n).wf = true) (C : Option Addr) (m cc : Nat) (l : List (Int × Int)) (hmc : m ≤ cc) (hc : cc ≤ maxLen) (hl : l.length = m) (hr : Reads w w.heap.size 2 C m (actCells l))
    (hw : ∀ p ∈ l, (Lit.int .u8 p.1).wf = true ∧ (Lit.int .i64 p.2).wf = true) (pl : Int) (wf2 : (Lit.int .i64 pl).wf = true) :
    Calls Try.prog 7 #[.int .i64 n, .slice C m cc, .int .i64 pl] w fun e w' => e = .returned (.bool true) ∧ Still w w' := by
  by_cases h : 1000 < m
  · exact dropped_long w n C m cc pl h
  · exact dropped_walk w n C m cc l (by omega) hl hr hw pl
end Go.Proofs.Ytfbknjboceheaaa
