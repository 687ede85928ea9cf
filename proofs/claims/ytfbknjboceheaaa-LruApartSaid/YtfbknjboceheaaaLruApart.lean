/-
  LruApart: what is done with a copy changes nothing of the list, and the other way about; for every list that acts make, and all further acts.
-/
import Derived.Test.YtfbknjboceheaaaLruMade
namespace Go.Proofs.Ytfbknjboceheaaa
open Go.RowKit
set_option linter.unusedVariables false

def moreAct (a : Int × Int) : Int × Int := (if a.1 = 0 then 0 else 1, a.2)
def more (n : Nat) (L : List Nat) (l : List (Int × Int)) : List Nat := l.foldl (fun L a => doAct n L (moreAct a)) L
theorem more_ok {n : Nat} {L : List Nat} (h : LL n L) (l : List (Int × Int)) : LL n (more n L l) := by
  unfold more
  induction l generalizing L with
  | nil => exact h
  | cons a l ih => exact ih (doAct_ok h _)
theorem more_snoc {n : Nat} {L : List Nat} {l : List (Int × Int)} {k : Nat} {a : Int × Int} (h : l[k]? = some a) : more n L (l.take (k + 1)) = doAct n (more n L (l.take k)) (moreAct a) := by
  unfold more
  rw [List.take_add_one, h, List.foldl_append]
  rfl

theorem LL.len {n : Nat} {L : List Nat} (h : LL n L) : L.length ≤ 256 := by
  have h0 : (0 :: L).Nodup := List.nodup_cons.2 ⟨h.row.nz, h.row.nd⟩
  have h1 := nodup_le 257 (0 :: L) h0 (fun x hx => by
    rcases List.mem_cons.1 hx with rfl | hx
    · omega
    · have := h.le x hx; have := h.mx; omega)
  simp at h1
  omega

set_option maxRecDepth 1000000 in
set_option maxHeartbeats 6400000 in
theorem apart_walk (w : World) (n : Int) (C : Option Addr) (m cc : Nat) (l : List (Int × Int)) (hm : m ≤ 500) (hl : l.length = m) (hr : Reads w w.heap.size 2 C m (actCells l))
    (hw : ∀ p ∈ l, (Lit.int .u8 p.1).wf = true ∧ (Lit.int .i64 p.2).wf = true)
    (D : Option Addr) (m2 dc : Nat) (l2 : List (Int × Int)) (hm2 : m2 ≤ 500) (hl2 : l2.length = m2) (hr2 : Reads w w.heap.size 2 D m2 (actCells l2)) :
    Calls Try.prog 8 #[.int .i64 n, .slice C m cc, .slice D m2 dc] w fun e w' => e = .returned (.bool true) ∧ Still w w' := by
  have h500 : ¬ (500 : Int) < (m : Int) := by omega
  have h502 : ¬ (500 : Int) < (m2 : Int) := by omega
  have Hl := Lib.hid hl
  have Hw := Lib.hid hw
  have Hl2 := Lib.hid hl2
  clear hl hw hl2
  go_enter Try.func8, Try.ntmps8
  go_wp2_with fail
  refine (lru_awake _).mono ?_
  rintro e w0 ⟨rfl, ho0⟩
  have hr0 := hr.only ho0 (Nat.le_refl _) (fun _ _ h => h)
  go_wp2_with fail
  refine (made_any n C m cc l (by omega) Hl.out (hr0.more ho0.size) Hw.out).mono ?_
  rintro e w1 ⟨g, K, rfl, hK1, hK2, hg, hb1, hs1⟩
  have hgw : w.heap.size ≤ g := by have := ho0.size; omega
  have hst1 := ho0.still hs1
  have hlk := doActs_ok hK2 l
  generalize doActs K l = L at hb1 hlk
  clear hr hr0 ho0 hs1 hg
  go_wp2_with fail
  refine (Row_any hb1 hlk).mono ?_
  rintro e w2 ⟨A, c, rfl, hown, hs2⟩
  have hst2 := hst1.still hs2
  have hb2 := hb1.still hs2
  have hgb : g < w1.heap.size := Blk.lt hb1
  clear hst1 hs2 hb1
  go_wp2_with fail
  refine (Copy_any hb2).mono ?_
  rintro e w3 ⟨g', rfl, hg', hc3, hs3⟩
  have hst3 := hst2.still hs3
  have hb3 := hb2.still hs3
  have hown3 := own_only hown hs3 (fun _ _ h => h)
  have hgg : g < g' := by have := Blk.lt hb2; omega
  have hgw' : w.heap.size ≤ g' := by omega
  have hog : ∀ k, (Value.slice A L.length c).ownBlock = some k → w1.heap.size ≤ k ∧ k < g' := fun k hk => by
    have := hown.lt k hk
    omega
  have Hog := Lib.hid hog
  clear hst2 hs3 hb2 hown hg' hog
  go_wp2_with fail
  go_loopw [11] (fun i wr => ∃ k : Nat, k ≤ m2 ∧ i = .int .i64 k ∧ Lst wr g' K (more K L (l2.take k)) ∧ Hid (Only (· = g') w3 wr)) (fun i _ => m2 - (intOf i).toNat)
  case atStart => exact ⟨0, by omega, rfl, hc3, Lib.hid (Only.refl _ _)⟩
  case round =>
    obtain ⟨k, hk, rfl, hc, ho⟩ := hrel
    have hlm := more_ok hlk (l2.take k)
    have hst := Still.only hst3 ho.out hgw'
    have hrr := hr2.only hst (Nat.le_refl _) (fun _ _ h => h)
    by_cases hlt : k < m2
    · obtain ⟨bl, off, a, p, rfl, hbl, hlk2, c0, c1⟩ := act_cells hrr Hl2.out hlt
      have hnext := more_snoc (n := K) (L := L) hlk2
      have Hnext := Lib.hid hnext
      clear hnext hlk2 hrr
      generalize more K L (l2.take k) = M at *
      by_cases ha0 : a = 0
      · subst ha0
        go_wp2_with fail
        refine (Use_act hc hlm p).mono ?_
        rintro e w4 ⟨rfl, hc4, ho4⟩
        go_wp2_with fail
        go_roundw
        case rel => exact ⟨k + 1, by omega, by go_num, by rw [Hnext.out]; exact hc4, Lib.hid (ho.out.trans ho4 (fun _ _ h => h))⟩
        case measure => simp [intOf]; omega
      · have he : moreAct (a, p) = (1, p) := by simp [moreAct, ha0]
        rw [he] at Hnext
        have hb0 : (a == 0) = false := by simp [ha0]
        go_wp2_with fail
        refine (Drop_act hc hlm p).mono ?_
        rintro e w4 ⟨rfl, hc4, ho4⟩
        go_wp2_with fail
        go_roundw
        case rel => exact ⟨k + 1, by omega, by go_num, by rw [Hnext.out]; exact hc4, Lib.hid (ho.out.trans ho4 (fun _ _ h => h))⟩
        case measure => simp [intOf]; omega
    · obtain rfl : m2 = k := by omega
      rw [List.take_of_length_le (by rw [Hl2.out]; exact Nat.le_refl _)] at hc hlm
      have hb4 : Lst wr g K L := Blk.only hb3 ho.out (by omega)
      have hown4 := own_only hown3 ho.out (fun k hk e => by have := Hog.out k hk; omega)
      generalize hM : more K L l2 = M at *
      have HM := Lib.hid hM
      clear hM hb3 hown3 ho hst3 hc3
      go_wp2_with fail
      refine (Row_any hb4 hlk).mono ?_
      rintro e w5 ⟨A5, c5, rfl, hown5, hs5⟩
      have hst5 := hst.still hs5
      have hb5 := hb4.still hs5
      have hc5 := hc.still hs5
      have hown6 := own_only hown4 hs5 (fun _ _ h => h)
      clear hb4 hc hown4 hs5 hst
      have hL : L.length ≤ 1000000000000 := by have := hlk.len; omega
      go_wp2_with fail
      refine (ints_any A5 A L.length c5 L.length c _ _ _ _ _ (Reads.of_own hown5) (Reads.of_own hown6) hL hL).mono ?_
      rintro e w6 ⟨rfl, q, rfl⟩
      have hb6 : Lst _ g K L := Blk.drewN hb5 q
      have hc6 : Lst _ g' K M := Blk.drewN hc5 q
      have hst6 := hst5.drewN q
      generalize w5.drewN q = w6 at *
      clear hown5 hown6 hb5 hc5 hst5
      go_wp2_with fail
      refine (Len_any hb6 hlk).mono ?_
      rintro e w7 ⟨rfl, hs7⟩
      have hb7 := hb6.still hs7
      have hc7 := hc6.still hs7
      have hst7 := hst6.still hs7
      clear hb6 hc6 hst6 hs7
      go_wp2_with fail
      refine (Row_any hc7 hlm).mono ?_
      rintro e w8 ⟨A8, c8, rfl, hown8, hs8⟩
      have hb8 := hb7.still hs8
      have hc8 := hc7.still hs8
      have hst8 := hst7.still hs8
      have hgt : g < w7.heap.size := Blk.lt hb7
      have hog8 : ∀ k, (Value.slice A8 M.length c8).ownBlock = some k → w7.heap.size ≤ k := fun k hk => (hown8.lt k hk).1
      have Hog8 := Lib.hid hog8
      clear hb7 hc7 hst7 hs8 hog8
      go_wp2_with fail
      go_loopw [13] (fun i wr => ∃ k : Nat, k ≤ m2 ∧ i = .int .i64 k ∧ Lst wr g K (more K L (l2.take k)) ∧ Hid (Only (· = g) w8 wr)) (fun i _ => m2 - (intOf i).toNat)
      case atStart => exact ⟨0, by omega, rfl, hb8, Lib.hid (Only.refl _ _)⟩
      case round =>
        clear hb8
        obtain ⟨k, hk, rfl, hb, ho⟩ := hrel
        have hln := more_ok hlk (l2.take k)
        have hst := Still.only hst8 ho.out hgw
        have hrr := hr2.only hst (Nat.le_refl _) (fun _ _ h => h)
        by_cases hlt : k < m2
        · obtain ⟨bl, off, a, p, rfl, hbl, hlk2, c0, c1⟩ := act_cells hrr Hl2.out hlt
          have hnext := more_snoc (n := K) (L := L) hlk2
          have Hnext := Lib.hid hnext
          clear hnext hlk2 hrr
          generalize more K L (l2.take k) = M2 at *
          by_cases ha0 : a = 0
          · subst ha0
            go_wp2_with fail
            refine (Use_act hb hln p).mono ?_
            rintro e w9 ⟨rfl, hb9, ho9⟩
            go_wp2_with fail
            go_roundw
            case rel => exact ⟨k + 1, by omega, by go_num, by rw [Hnext.out]; exact hb9, Lib.hid (ho.out.trans ho9 (fun _ _ h => h))⟩
            case measure => simp [intOf]; omega
          · have he : moreAct (a, p) = (1, p) := by simp [moreAct, ha0]
            rw [he] at Hnext
            have hb0 : (a == 0) = false := by simp [ha0]
            go_wp2_with fail
            refine (Drop_act hb hln p).mono ?_
            rintro e w9 ⟨rfl, hb9, ho9⟩
            go_wp2_with fail
            go_roundw
            case rel => exact ⟨k + 1, by omega, by go_num, by rw [Hnext.out]; exact hb9, Lib.hid (ho.out.trans ho9 (fun _ _ h => h))⟩
            case measure => simp [intOf]; omega
        · obtain rfl : m2 = k := by omega
          rw [List.take_of_length_le (by rw [Hl2.out]; exact Nat.le_refl _), HM.out] at hb
          have hc9 : Lst wr g' K M := Blk.only hc8 ho.out (by omega)
          have hown9 := own_only hown8 ho.out (fun k hk e => by have := Hog8.out k hk; omega)
          have hML : M.length ≤ 1000000000000 := by have := hlm.len; omega
          clear hc8 hown8 ho hst8
          go_wp2_with fail
          refine (Row_any hc9 hlm).mono ?_
          rintro e w10 ⟨A10, c10, rfl, hown10, hs10⟩
          have hst10 := hst.still hs10
          have hb10 := hb.still hs10
          have hown11 := own_only hown9 hs10 (fun _ _ h => h)
          clear hc9 hown9 hs10 hst hb
          go_wp2_with fail
          refine (ints_any A10 A8 M.length c10 M.length c8 _ _ _ _ _ (Reads.of_own hown10) (Reads.of_own hown11) hML hML).mono ?_
          rintro e w11 ⟨rfl, q2, rfl⟩
          have hb11 : Lst _ g K M := Blk.drewN hb10 q2
          have hst11 := hst10.drewN q2
          have hown12 : (w10.drewN q2).ownsRow _ 3 1 (.slice A8 M.length c8) M.length _ := own_only hown11 ((Only.refl (fun _ => False) w10).drewN q2) (fun _ _ h => h)
          generalize w10.drewN q2 = w11 at *
          clear hown10 hown11 hb10 hst10
          go_wp2_with fail
          refine (Row_any hb11 hlm).mono ?_
          rintro e w13 ⟨A13, c13, rfl, hown13, hs13⟩
          have hst13 := hst11.still hs13
          have hown14 := own_only hown12 hs13 (fun _ _ h => h)
          clear hown12 hb11 hs13 hst11
          go_wp2_with fail
          refine (ints_any A13 A8 M.length c13 M.length c8 _ _ _ _ _ (Reads.of_own hown13) (Reads.of_own hown14) hML hML).mono ?_
          rintro e w14 ⟨rfl, q3, rfl⟩
          go_wp2_with fail
          go_ret
          exact ⟨rfl, hst13.drewN q3⟩

theorem apart_long (w : World) (n : Int) (C D : Option Addr) (m cc m2 dc : Nat) (h : 500 < m ∨ 500 < m2) :
    Calls Try.prog 8 #[.int .i64 n, .slice C m cc, .slice D m2 dc] w fun e w' => e = .returned (.bool true) ∧ Still w w' := by
  by_cases hn : 500 < m
  · have h5 : (500 : Int) < (m : Int) := by omega
    go_enter Try.func8, Try.ntmps8
    go_wp2_with fail
    refine (lru_awake _).mono ?_
    rintro e w0 ⟨rfl, ho0⟩
    go_wp2
    go_ret
    exact ⟨rfl, ho0⟩
  · have h5 : ¬ (500 : Int) < (m : Int) := by omega
    have h6 : (500 : Int) < (m2 : Int) := by omega
    go_enter Try.func8, Try.ntmps8
    go_wp2_with fail
    refine (lru_awake _).mono ?_
    rintro e w0 ⟨rfl, ho0⟩
    go_wp2
    go_ret
    exact ⟨rfl, ho0⟩

theorem apart_all (w : World) (n : Int) (wf : (Lit.int .i64 n).wf = true) (C : Option Addr) (m cc : Nat) (l : List (Int × Int)) (hmc : m ≤ cc) (hc : cc ≤ maxLen) (hl : l.length = m) (hr : Reads w w.heap.size 2 C m (actCells l))
    (hw : ∀ p ∈ l, (Lit.int .u8 p.1).wf = true ∧ (Lit.int .i64 p.2).wf = true)
    (D : Option Addr) (m2 dc : Nat) (l2 : List (Int × Int)) (hmc2 : m2 ≤ dc) (hc2 : dc ≤ maxLen) (hl2 : l2.length = m2) (hr2 : Reads w w.heap.size 2 D m2 (actCells l2))
    (hw2 : ∀ p ∈ l2, (Lit.int .u8 p.1).wf = true ∧ (Lit.int .i64 p.2).wf = true) :
    Calls Try.prog 8 #[.int .i64 n, .slice C m cc, .slice D m2 dc] w fun e w' => e = .returned (.bool true) ∧ Still w w' := by
  by_cases h : 500 < m ∨ 500 < m2
  · exact apart_long w n C D m cc m2 dc h
  · exact apart_walk w n C m cc l (by omega) hl hr hw D m2 dc l2 (by omega) hl2 hr2
end Go.Proofs.Ytfbknjboceheaaa
