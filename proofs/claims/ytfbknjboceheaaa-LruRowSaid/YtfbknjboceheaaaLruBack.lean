/-
  LruRow: the row is of those that were used and not dropped since, by their last use; for every list that acts make.
-/
import Derived.Test.YtfbknjboceheaaaLruMore
namespace Go.Proofs.Ytfbknjboceheaaa
open Go.RowKit
set_option linter.unusedVariables false

def unseen (S : List Bool) (X : List Nat) : List Nat := X.filter (fun q => !(S.getD (q - 1) false))
theorem unseen_out {S : List Bool} {p : Nat} (h : S.getD p false = true) (X : List Nat) : unseen S (out (p + 1) X) = unseen S X := by
  unfold unseen out
  rw [List.filter_filter]
  apply List.filter_congr
  intro q _
  by_cases e : q = p + 1
  · subst e
    rw [show p + 1 - 1 = p by omega, h]
    simp
  · simp [e]
theorem getD_set (S : List Bool) (p x : Nat) (hp : p < S.length) : (S.set p true).getD x false = if p = x then true else S.getD x false := by
  rw [List.getD_eq_getElem?_getD, List.getElem?_set]
  by_cases e : p = x
  · have hx : x < S.length := by omega
    simp [e, hx]
  · simp [e]
theorem unseen_see {S : List Bool} {p : Nat} (hp : p < S.length) {X : List Nat} (h0 : 0 ∉ X) : unseen (S.set p true) X = unseen S (out (p + 1) X) := by
  unfold unseen out
  rw [List.filter_filter]
  apply List.filter_congr
  intro q hq
  have hq0 : q ≠ 0 := fun e => h0 (e ▸ hq)
  rw [getD_set _ _ _ hp]
  by_cases e : q = p + 1
  · subst e; simp
  · have : ¬ p = q - 1 := by omega
    simp [this, e]
theorem unseen_snoc {S : List Bool} {p : Nat} (h : S.getD p false = false) (X : List Nat) : unseen S (X ++ [p + 1]) = unseen S X ++ [p + 1] := by
  unfold unseen
  rw [List.filter_append]
  congr 1
  rw [List.filter_cons, show p + 1 - 1 = p by omega, h]
  rfl
theorem unseen_snoc_no {S : List Bool} {p : Nat} (h : S.getD p false = true) (X : List Nat) : unseen S (X ++ [p + 1]) = unseen S X := by
  unfold unseen
  rw [List.filter_append, List.filter_cons, show p + 1 - 1 = p by omega, h]
  simp
theorem snoc_take {Y L : List Nat} {q at_ : Nat} (h : Y ++ [q] = L.take at_) (hat : at_ ≤ L.length) : ∃ k, at_ = k + 1 ∧ L[k]? = some q ∧ Y = L.take k := by
  have hl := congrArg List.length h
  rw [List.length_append, List.length_take, Nat.min_eq_left hat] at hl
  simp at hl
  refine ⟨Y.length, hl.symm, ?_, ?_⟩
  · have h1 : (Y ++ [q])[Y.length]? = some q := by simp
    rw [h, List.getElem?_take] at h1
    split at h1
    · exact h1
    · cases h1
  · have h1 : (Y ++ [q]).take Y.length = Y := by simp
    rw [h, List.take_take, Nat.min_eq_left (by omega)] at h1
    exact h1.symm
theorem act_not {n : Nat} {X : List Nat} {a p : Int} (h : ¬ (0 ≤ p ∧ p < n) ∨ (a ≠ 0 ∧ a ≠ 1)) : doAct n X (a, p) = X := by
  unfold doAct
  rcases h with h | ⟨h1, h2⟩
  · rw [if_neg h]
  · simp [h1, h2]
theorem act_use {n p : Nat} {X : List Nat} (h : p < n) : doAct n X (0, (p : Int)) = out (p + 1) X ++ [p + 1] := by
  unfold doAct
  simp [h]
theorem act_drop {n p : Nat} {X : List Nat} (h : p < n) : doAct n X (1, (p : Int)) = out (p + 1) X := by
  unfold doAct
  simp [h]
def allFalse : Array Value := Array.replicate 256 (.bool false)
theorem zero_seen (w : World) : (zeroValue 50).run Try.prog w = .ok (.agg allFalse) w := by kernel_rfl
theorem allFalse_eq : allFalse = ((List.replicate 256 false).map Value.bool).toArray := by kernel_rfl
theorem unseen_all (X : List Nat) : unseen (List.replicate 256 false) X = X := by
  unfold unseen
  apply List.filter_eq_self.2
  intro q _
  rw [List.getD_eq_getElem?_getD, List.getElem?_replicate]
  split <;> simp

set_option maxRecDepth 1000000 in
set_option maxHeartbeats 6400000 in
theorem back_walk (w : World) (n : Int) (C : Option Addr) (m cc : Nat) (l : List (Int × Int)) (hm : m ≤ 1000) (hl : l.length = m) (hr : Reads w w.heap.size 2 C m (actCells l))
    (hw : ∀ p ∈ l, (Lit.int .u8 p.1).wf = true ∧ (Lit.int .i64 p.2).wf = true) :
    Calls Try.prog 5 #[.int .i64 n, .slice C m cc] w fun e w' => e = .returned (.bool true) ∧ Still w w' := by
  have h1000 : ¬ (1000 : Int) < (m : Int) := by omega
  have Hl := Lib.hid hl
  have Hw := Lib.hid hw
  clear hl hw
  have hz := zero_seen
  go_enter Try.func5, Try.ntmps5
  go_wp2_with fail
  refine (lru_awake _).mono ?_
  rintro e w0 ⟨rfl, ho0⟩
  have hr0 := hr.only ho0 (Nat.le_refl _) (fun _ _ h => h)
  go_wp2_with fail
  refine (made_any n C m cc l (by omega) Hl.out (hr0.more ho0.size) Hw.out).mono ?_
  rintro e w1 ⟨g, K, rfl, hK1, hK2, hg, hb1, hs1⟩
  have hst1 := ho0.still hs1
  have hlk := doActs_ok hK2 l
  have hlast : unseen (List.replicate 256 false) (doActs K (l.take m)) = (doActs K l).take (doActs K l).length := by
    rw [unseen_all, List.take_length, List.take_of_length_le (by rw [Hl.out]; exact Nat.le_refl _)]
  have Hlast := Lib.hid hlast
  clear hlast
  generalize hL : doActs K l = L at hb1 hlk Hlast
  clear hL hr0 ho0 hs1 hg
  have hLl := hlk.length_le
  go_wp2_with fail
  refine (Row_any hb1 hlk).mono ?_
  rintro e w2 ⟨A, c, rfl, hown, hs2⟩
  have hst2 := hst1.still hs2
  have hrow := Reads.of_own hown
  clear hst1 hs2 hb1 hown
  go_wp2_with fail
  obtain ⟨S, hS⟩ : ∃ S, S = w2.heap.size := ⟨_, rfl⟩
  obtain ⟨W, hW⟩ : ∃ W, W = w2.alloc (Obj.cells allFalse 50) := ⟨_, rfl⟩
  have hblk : Blk W S 50 ((List.replicate 256 false).map Value.bool).toArray := by
    rw [hW, ← allFalse_eq]; exact Blk.at_ _ _ _ hS
  have hst3 : Still w W := by rw [hW]; exact hst2.alloc _
  have hs3 : Still w2 W := by rw [hW]; exact Still.new _ _
  have hSw : w.heap.size ≤ S := by have := hst2.size; omega
  have hSle : w2.heap.size ≤ S := by omega
  rw [← hW, ← hS]
  clear hW hS hst2 hz
  go_loopw [8, 10] (fun a i wr => ∃ (k at_ : Nat) (bs : List Bool), k ≤ m ∧ at_ ≤ L.length ∧ i = .int .i64 ((k : Int) - 1) ∧ a = .int .i64 at_ ∧ bs.length = 256 ∧ Hid (unseen bs (doActs K (l.take k)) = L.take at_) ∧ Blk wr S 50 (bs.map Value.bool).toArray ∧ Hid (Only (· = S) W wr)) (fun _ i _ => (intOf i + 1).toNat)
  case atStart => exact ⟨m, L.length, _, by omega, Nat.le_refl _, rfl, rfl, List.length_replicate, Hlast, hblk, Lib.hid (Only.refl _ _)⟩
  case round =>
    clear hblk Hlast
    obtain ⟨k, at_, bs, hk, hat, rfl, rfl, hbs, hinv, hblk, ho⟩ := hrel
    have hst := Still.only hst3 ho.out hSw
    cases k with
    | zero =>
      have hat0 : at_ = 0 := by
        have := congrArg List.length hinv.out
        rw [List.length_take, Nat.min_eq_left hat] at this
        simpa [doActs, unseen] using this.symm
      subst hat0
      go_wp2_with fail
      go_ret
      exact ⟨rfl, hst⟩
    | succ k =>
      have ek : (((k + 1 : Nat) : Int) - 1) = (k : Int) := by omega
      rw [ek]
      clear ek
      have hrr := hr.only hst (Nat.le_refl _) (fun _ _ h => h)
      obtain ⟨bl, off, a, p, rfl, hbl, hlk2, c0, c1⟩ := act_cells hrr Hl.out (k := k) (by omega)
      have hwa := Hw.out _ (List.mem_of_getElem? hlk2)
      obtain ⟨hwa, _⟩ := hwa
      have ha0 : 0 ≤ a ∧ a < 256 := wf_u8 hwa
      obtain ⟨ha0, ha2⟩ := ha0
      have hsn := doActs_snoc (n := K) hlk2
      have hin := hinv.out
      rw [hsn] at hin
      have hX := doActs_ok hK2 (l.take k)
      have hbS : ¬ bl = S := by have := hst3.size; omega
      clear hsn hinv hlk2 hwa hrr
      obtain ⟨X, hXX⟩ : ∃ X, X = doActs K (l.take k) := ⟨_, rfl⟩
      rw [← hXX] at hin hX
      have HX := Lib.hid hXX
      clear hXX
      by_cases hval : (0 ≤ p ∧ p < (K : Int)) ∧ a ≤ 1
      · obtain ⟨⟨hp0, hp1⟩, ha1⟩ := hval
        obtain ⟨P, rfl⟩ : ∃ P : Nat, p = (P : Int) := ⟨p.toNat, by omega⟩
        have hPK : P < K := by omega
        have hP256 : P < 256 := by omega
        have hPi : (P : Int) < 256 := by omega
        rcases hb : bs.getD P false with _ | _
        · have hc : wr.cell? ⟨S, P, none⟩ = some (.bool false) := by
            rw [hblk.cell P, ← hb, List.getD_eq_getElem?_getD]
            have : P < bs.length := by omega
            simp [this]
          have hf := hblk.frozen P
          have hset := hblk.set_ P (.bool true)
          have hset' : Blk (wr.setCell ⟨S, P, none⟩ (.bool true)) S 50 ((bs.set P true).map Value.bool).toArray := by
            rw [List.map_set]; simpa using hset
          have ho' := ho.out.trans ((Only.refl (· = S) _).setCell (p := ⟨S, P, none⟩) (.inl rfl) (.bool true)) (fun _ _ h => h)
          have hbl' : (bs.set P true).length = 256 := by rw [List.length_set]; exact hbs
          have hsee := unseen_see (S := bs) (p := P) (by omega) hX.row.nz
          have Hsee := Lib.hid hsee
          have Hb := Lib.hid hb
          clear hset hsee hb
          by_cases ha : a = 0
          · subst ha
            rw [act_use hPK, unseen_snoc Hb.out] at hin
            obtain ⟨t, rfl, hLt, hY⟩ := snoc_take hin hat
            have HY := Lib.hid hY
            have htL : t < L.length := by omega
            have hrowx := reads_int ((hrow.only (Still.only hs3 ho.out hSle) (Nat.le_refl _) (fun _ _ h => h))) htL
            obtain ⟨ad, x, rfl, had, hx, hcx⟩ := hrowx
            have hxP : x = (P : Int) := by
              unfold toInts at hx
              rw [List.getElem?_map, hLt] at hx
              simpa using hx.symm
            subst hxP
            have et : (((t + 1 : Nat) : Int) - 1) = (t : Int) := by omega
            have hcx' : (wr.setCell ⟨S, P, none⟩ (.bool true)).cell? (ad.add t) = some (.int .i64 (P : Int)) := by
              rw [World.cell?_setCell_other _ _ _ _ (fun e => by have := congrArg Addr.block e; rw [block_of_add] at this; simp at this; omega)]
              exact hcx
            clear hin hLt hY hx hcx
            go_wp2_with fail
            go_roundw
            case rel => exact ⟨k, t, bs.set P true, by omega, by omega, rfl, rfl, hbl', Lib.hid (by rw [← HX.out, Hsee.out]; exact HY.out), hset', Lib.hid ho'⟩
            case measure => simp [intOf]
          · have ha1' : a = 1 := by omega
            subst ha1'
            rw [act_drop hPK] at hin
            have Hin := Lib.hid hin
            clear hin
            go_wp2_with fail
            go_roundw
            case rel => exact ⟨k, at_, bs.set P true, by omega, by omega, rfl, rfl, hbl', Lib.hid (by rw [← HX.out, Hsee.out]; exact Hin.out), hset', Lib.hid ho'⟩
            case measure => simp [intOf]
        · have hc : wr.cell? ⟨S, P, none⟩ = some (.bool true) := by
            rw [hblk.cell P, ← hb, List.getD_eq_getElem?_getD]
            have : P < bs.length := by omega
            simp [this]
          have hin' : unseen bs X = L.take at_ := by
            by_cases ha : a = 0
            · subst ha
              rw [act_use hPK, unseen_snoc_no hb, unseen_out hb] at hin
              exact hin
            · have ha1' : a = 1 := by omega
              subst ha1'
              rw [act_drop hPK, unseen_out hb] at hin
              exact hin
          have Hin := Lib.hid hin'
          have hla : ¬ 1 < a := by omega
          clear hin hin' hb
          go_wp2_with fail
          go_roundw
          case rel => exact ⟨k, at_, bs, by omega, by omega, rfl, rfl, hbs, Lib.hid (by rw [← HX.out]; exact Hin.out), hblk, ho⟩
          case measure => simp [intOf]
      · have hno : doAct K X (a, p) = X := act_not (by omega)
        rw [hno] at hin
        have Hin := Lib.hid hin
        clear hin hno
        have hor : 1 < a ∨ (a ≤ 1 ∧ p < 0) ∨ (a ≤ 1 ∧ 0 ≤ p ∧ (K : Int) ≤ p) := by omega
        clear hval
        rcases hor with h1 | ⟨h1, h2⟩ | ⟨h1, h2, h3⟩
        all_goals
          go_wp2_with fail
          go_roundw
          case rel => exact ⟨k, at_, bs, by omega, by omega, rfl, rfl, hbs, Lib.hid (by rw [← HX.out]; exact Hin.out), hblk, ho⟩
          case measure => simp [intOf]

theorem back_long (w : World) (n : Int) (C : Option Addr) (m cc : Nat) (h : 1000 < m) :
    Calls Try.prog 5 #[.int .i64 n, .slice C m cc] w fun e w' => e = .returned (.bool true) ∧ Still w w' := by
  have h5 : (1000 : Int) < (m : Int) := by omega
  go_enter Try.func5, Try.ntmps5
  go_wp2_with fail
  refine (lru_awake _).mono ?_
  rintro e w0 ⟨rfl, ho0⟩
  go_wp2
  go_ret
  exact ⟨rfl, ho0⟩

theorem back_all (w : World) (n : Int) (wf : (Lit.int .i64 n).wf = true) (C : Option Addr) (m cc : Nat) (l : List (Int × Int)) (hmc : m ≤ cc) (hc : cc ≤ maxLen) (hl : l.length = m) (hr : Reads w w.heap.size 2 C m (actCells l))
    (hw : ∀ p ∈ l, (Lit.int .u8 p.1).wf = true ∧ (Lit.int .i64 p.2).wf = true) :
    Calls Try.prog 5 #[.int .i64 n, .slice C m cc] w fun e w' => e = .returned (.bool true) ∧ Still w w' := by
  by_cases h : 1000 < m
  · exact back_long w n C m cc h
  · exact back_walk w n C m cc l (by omega) hl hr hw
end Go.Proofs.Ytfbknjboceheaaa
