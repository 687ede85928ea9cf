/-
  LruPlays: whatever is used, dropped, asked and copied, each answer, and the row, are the document's; for every number of places, and all acts.
-/
import Derived.Test.YtfbknjboceheaaaLruRef
namespace Go.Proofs.Ytfbknjboceheaaa
open Go.RowKit
set_option linter.unusedVariables false

theorem own_cell {w : World} {base b c n : Nat} {e : TypeId} {k : IntKind} {L : List Int} (h : w.ownsRow base e 1 (.slice (some ⟨b, 0, none⟩) n c) n (L.map (.int k))) {i : Nat} (hi : i < L.length) :
    w.cell? ⟨b, i, none⟩ = some (.int k (L.getD i 0)) := by
  have := h.cells (g := b) rfl i (.int k (L.getD i 0)) (by simp [List.getElem?_eq_getElem hi])
  have hadd : (⟨b, 0, none⟩ : Addr).add i = ⟨b, i, none⟩ := by unfold Addr.add; split <;> simp_all
  rwa [hadd] at this
theorem Lst.type {w : World} {g n : Nat} {L : List Nat} (h : Lst w g n L) {t : TypeId} {cs : Array Value} (hh : w.heap[g]? = some (.cells cs t (0, 0))) : t = 35 := by
  have h1 : w.heap[g]? = some (.cells _ 35 (0, 0)) := h
  rw [hh] at h1
  injection h1 with h1
  injection h1 with _ ht
theorem RefL.type {w : World} {b g N : Nat} {xs : List Int} (h : RefL w b g N xs) {t : TypeId} {cs : Array Value} (hh : w.heap[g]? = some (.cells cs t (0, 0))) : t = 57 := by
  obtain ⟨A, c, h1, _⟩ := h
  have h1 : w.heap[g]? = some (.cells _ 57 (0, 0)) := h1
  rw [hh] at h1
  injection h1 with h1
  injection h1 with _ ht
theorem RefL.by_lst {w w' : World} {b g g' n N : Nat} {L : List Nat} {xs : List Int} (h : RefL w b g' N xs) (hb : Lst w g n L) (ho : Only (· = g) w w') : RefL w' b g' N xs :=
  h.other ho (by
    rintro i t cs rfl hh
    have := hb.type hh
    subst this
    exact ⟨by decide, by decide⟩)
theorem Lst.by_ref {w w' : World} {b g g' n N : Nat} {L : List Nat} {xs : List Int} (h : Lst w g n L) (hr : RefL w b g' N xs) (ho : Only (· = g') w w') : Lst w' g n L :=
  Blk.only h ho (by
    rintro rfl
    have h1 := hr.type h
    revert h1
    decide)

theorem toInts_use {n : Nat} {L : List Nat} (p : Int) (h : 0 ≤ p ∧ p < n) : toInts (doAct n L (0, p)) = flt p (toInts L) ++ [p] := by
  obtain ⟨k, rfl⟩ : ∃ k : Nat, p = (k : Int) := ⟨p.toNat, by omega⟩
  unfold doAct
  rw [if_pos h, if_pos rfl]
  simp only [Int.toNat_natCast]
  rw [toInts_snoc, flt_out]
theorem flt_none {p : Int} {xs : List Int} (h : p ∉ xs) : flt p xs = xs := List.filter_eq_self.2 (by intro a ha; simp; rintro rfl; exact h ha)
theorem toInts_no {n : Nat} {L : List Nat} (hl : LL n L) (p : Int) (h : ¬ (0 ≤ p ∧ p < n)) : p ∉ toInts L := by
  intro hm
  obtain ⟨k, hk⟩ := List.getElem?_of_mem hm
  unfold toInts at hk
  rw [List.getElem?_map] at hk
  obtain ⟨q, hq, rfl⟩ := Option.map_eq_some_iff.1 hk
  have hm := List.mem_of_getElem? hq
  have h0 : q ≠ 0 := fun e => hl.row.nz (e ▸ hm)
  have h1 := hl.le q hm
  omega
theorem toInts_drop {n : Nat} {L : List Nat} (hl : LL n L) (p : Int) : toInts (doAct n L (1, p)) = flt p (toInts L) := by
  by_cases h : 0 ≤ p ∧ p < (n : Int)
  · obtain ⟨k, rfl⟩ : ∃ k : Nat, p = (k : Int) := ⟨p.toNat, by omega⟩
    unfold doAct
    simp only [h, and_self, if_true, Int.toNat_natCast]
    rw [if_neg (by decide), flt_out]
  · rw [flt_none (toInts_no hl p h)]
    unfold doAct
    rw [if_neg h]
theorem refl_use {w : World} {b g N : Nat} {L : List Nat} (h : RefL w b g N (toInts L)) (hl : LL N L) (hb : b ≤ w.heap.size) (p : Int) :
    Calls Try.prog 20 #[.pointer (some ⟨g, 0, none⟩), .int .i64 p] w fun e w' => e = .returned (.int .i64 (if 0 ≤ p ∧ p < N then 0 else 1)) ∧ RefL w' b g N (toInts (doAct N L (0, p))) ∧ Only (· = g) w w' := by
  have hlen : (toInts L).length ≤ 1000000 := by rw [toInts_length]; have := hl.length_le; omega
  by_cases hp : 0 ≤ p ∧ p < (N : Int)
  · refine (refl_use_in h hlen p hp.1 hp.2).mono ?_
    rintro e w' ⟨rfl, h1, h2⟩
    rw [toInts_use p hp, if_pos hp]
    exact ⟨rfl, h1.base hb, h2⟩
  · refine (refl_use_out h p hp).mono ?_
    rintro e w' ⟨rfl, rfl⟩
    rw [if_neg hp]
    refine ⟨rfl, ?_, Only.refl _ _⟩
    have e : doAct N L (0, p) = L := by unfold doAct; rw [if_neg hp]
    rw [e]
    exact h
theorem refl_dropped {w : World} {b g N : Nat} {L : List Nat} (h : RefL w b g N (toInts L)) (hl : LL N L) (hb : b ≤ w.heap.size) (p : Int) :
    Calls Try.prog 21 #[.pointer (some ⟨g, 0, none⟩), .int .i64 p] w fun e w' => e = .returned (.bool (decide (p ∈ toInts L))) ∧ RefL w' b g N (toInts (doAct N L (1, p))) ∧ Only (· = g) w w' := by
  have hlen : (toInts L).length ≤ 1000000 := by rw [toInts_length]; have := hl.length_le; omega
  refine (refl_drop h hlen p).mono ?_
  rintro e w' ⟨rfl, h1, h2⟩
  rw [toInts_drop hl p]
  exact ⟨rfl, h1.base hb, h2⟩
theorem Drop_same {w : World} {g n : Nat} {L : List Nat} (hb : Lst w g n L) (hl : LL n L) (p : Int) :
    Calls Try.prog 16 #[.pointer (some ⟨g, 0, none⟩), .int .i64 p] w fun e w' => e = .returned (.bool (decide (p ∈ toInts L))) ∧ Lst w' g n (doAct n L (1, p)) ∧ Only (· = g) w w' := by
  refine (Drop_act hb hl p).mono ?_
  rintro e w' ⟨rfl, h1, h2⟩
  refine ⟨ret_bool ?_, h1, h2⟩
  rw [decide_eq_decide]
  by_cases h : 0 ≤ p ∧ p < (n : Int)
  · obtain ⟨k, rfl⟩ : ∃ k : Nat, p = (k : Int) := ⟨p.toNat, by omega⟩
    simp only [Int.toNat_natCast]
    rw [mem_toInts]
    exact ⟨fun x => x.2.2, fun x => ⟨h.1, h.2, x⟩⟩
  · exact ⟨fun x => absurd ⟨x.1, x.2.1⟩ h, fun x => absurd x (toInts_no hl p h)⟩
theorem Has_same {w : World} {g n : Nat} {L : List Nat} (hb : Lst w g n L) (hl : LL n L) (p : Int) :
    Calls Try.prog 15 #[.pointer (some ⟨g, 0, none⟩), .int .i64 p] w fun e w' => e = .returned (.bool (decide (p ∈ toInts L))) ∧ w = w' := by
  by_cases h : 0 ≤ p ∧ p < (n : Int)
  · obtain ⟨k, rfl⟩ : ∃ k : Nat, p = (k : Int) := ⟨p.toNat, by omega⟩
    refine (Has_in hb hl k (k + 1) rfl (by omega)).mono ?_
    rintro e w' ⟨rfl, rfl⟩
    exact ⟨ret_bool (by rw [decide_eq_decide]; exact mem_toInts.symm), rfl⟩
  · refine (Has_out hb p h).mono ?_
    rintro e w' ⟨rfl, rfl⟩
    exact ⟨ret_bool (decide_eq_false (toInts_no hl p h)).symm, rfl⟩

def oldI (xs : List Int) : Int := xs.headD 0
def newI (xs : List Int) : Int := xs.getLastD 0
def isSome_ (xs : List Int) : Bool := !xs.isEmpty
theorem Oldest_all {w : World} {g n : Nat} {L : List Nat} (hb : Lst w g n L) (hl : LL n L) :
    Calls Try.prog 12 #[.pointer (some ⟨g, 0, none⟩)] w fun e w' => e = .returned (.tuple #[.int .i64 (oldI (toInts L)), .bool (isSome_ (toInts L))]) ∧ w = w' := by
  cases L with
  | nil => exact Oldest_none hb hl.mx
  | cons a r => exact Oldest_some hb hl
theorem last_at {α : Type} (a : α) (r : List α) (d : α) : (a :: r)[r.length]? = some ((a :: r).getLastD d) := by
  rw [List.getLastD_eq_getLast?, List.getLast?_eq_getElem?]
  simp
theorem Newest_all {w : World} {g n : Nat} {L : List Nat} (hb : Lst w g n L) (hl : LL n L) :
    Calls Try.prog 13 #[.pointer (some ⟨g, 0, none⟩)] w fun e w' => e = .returned (.tuple #[.int .i64 (newI (toInts L)), .bool (isSome_ (toInts L))]) ∧ w = w' := by
  cases L with
  | nil => exact Newest_none hb hl.mx
  | cons a r =>
    refine (Newest_some hb hl (by simp) rfl).mono ?_
    rintro e w' ⟨rfl, rfl⟩
    have h1 : (toInts (a :: r))[r.length]? = some (((a :: r).getLastD 0 : Nat) - 1 : Int) := by
      unfold toInts
      rw [List.getElem?_map, last_at a r 0]
      rfl
    have h2 : (toInts (a :: r))[r.length]? = some ((toInts (a :: r)).getLastD 0) := by
      have := last_at ((a : Int) - 1) (toInts r) 0
      rw [toInts_length] at this
      exact this
    rw [h1] at h2
    injection h2 with h2
    refine ⟨?_, rfl⟩
    unfold newI
    rw [← h2]
    rfl
theorem refl_oldest {w : World} {b g N : Nat} {xs : List Int} (h : RefL w b g N xs) (hn : xs.length ≤ 1000000) :
    Calls Try.prog 29 #[.pointer (some ⟨g, 0, none⟩)] w fun e w' => e = .returned (.tuple #[.int .i64 (oldI xs), .bool (isSome_ xs)]) ∧ ∃ q, w' = w.drewN q := by
  cases xs with
  | nil =>
    refine (refl_oldest_none h).mono ?_
    rintro e w' ⟨rfl, rfl⟩
    exact ⟨rfl, 0, rfl⟩
  | cons a r => exact refl_oldest_some h hn
theorem refl_newest {w : World} {b g N : Nat} {xs : List Int} (h : RefL w b g N xs) (hn : xs.length ≤ 1000000) :
    Calls Try.prog 30 #[.pointer (some ⟨g, 0, none⟩)] w fun e w' => e = .returned (.tuple #[.int .i64 (newI xs), .bool (isSome_ xs)]) ∧ ∃ q, w' = w.drewN q := by
  cases xs with
  | nil =>
    refine (refl_newest_none h).mono ?_
    rintro e w' ⟨rfl, rfl⟩
    exact ⟨rfl, 0, rfl⟩
  | cons a r => exact refl_newest_some h rfl (by simp at hn; omega) (last_at a r 0)

set_option maxRecDepth 1000000 in
set_option maxHeartbeats 6400000 in
theorem alike_any {w : World} {g g' n b : Nat} {L : List Nat} (hb : Lst w g n L) (hl : LL n L) (hx : RefL w b g' n (toInts L)) :
    Calls Try.prog 24 #[.pointer (some ⟨g, 0, none⟩), .pointer (some ⟨g', 0, none⟩)] w fun e w' => e = .returned (.bool true) ∧ Still w w' := by
  have hLl := hl.length_le
  have hLi : (L.length : Int) ≤ 256 := by omega
  have hti := toInts_length L
  have hlen : (toInts L).length ≤ 1000000 := by omega
  have Hti := Lib.hid hti
  have Hlen := Lib.hid hlen
  clear hti hlen
  go_enter Try.func24, Try.ntmps24
  go_wp2_with fail
  refine (Oldest_all hb hl).mono ?_
  rintro e w1 ⟨rfl, rfl⟩
  go_wp2_with fail
  refine (refl_oldest hx Hlen.out).mono ?_
  rintro e w1 ⟨rfl, q1, rfl⟩
  have hb1 : Lst (w.drewN q1) g n L := Blk.drewN hb q1
  have hx1 := hx.still ((Only.refl (fun _ => False) w).drewN q1)
  have hs1 := (Only.refl (fun _ => False) w).drewN q1
  generalize w.drewN q1 = w1 at *
  go_wp2_with fail
  refine (Newest_all hb1 hl).mono ?_
  rintro e w2 ⟨rfl, rfl⟩
  go_wp2_with fail
  refine (refl_newest hx1 Hlen.out).mono ?_
  rintro e w2 ⟨rfl, q2, rfl⟩
  have hb2 : Lst (w1.drewN q2) g n L := Blk.drewN hb1 q2
  have hx2 := hx1.still ((Only.refl (fun _ => False) w1).drewN q2)
  have hs2 := hs1.drewN q2
  generalize w1.drewN q2 = w2 at *
  go_wp2_with fail
  refine (Row_any hb2 hl).mono ?_
  rintro e w5 ⟨A, c, rfl, hown, hs5⟩
  have hb5 := hb2.still hs5
  have hx5 := hx2.still hs5
  have hst5 := hs2.still hs5
  obtain ⟨Ax, cx, hbx, hownx⟩ := hx5
  rw [Hti.out] at hbx hownx
  have c1 := hbx.cell 1
  simp at c1
  have hbd : Lst w5.drew g n L := hb5
  have hw2 : w.heap.size ≤ w2.heap.size := hs2.size
  have hogk : ∀ k, (Value.slice A L.length c).ownBlock = some k → w.heap.size ≤ k := fun k hk => by have := (hown.lt k hk).1; omega
  have Hogk := Lib.hid hogk
  clear hogk hb hx hb1 hx1 hs1 hb2 hx2 hs2 hs5
  go_wp2_with fail
  go_region_held3 (fun w' => w'.cell? ⟨g', 1, none⟩ = some (.slice Ax L.length cx)) (first | go_keep | exact hc6 | exact c1)
    ((first
     | (go_at_call 14; refine (Len_any hbd hl).mono ?_; rintro e w6 ⟨rfl, hs6⟩; have hc6 := hs6.cell_some (p := ⟨g', 1, none⟩) (fun h => h) (show w5.drew.cell? _ = _ from c1))
     | (go_at_call 26; refine (ints_any A Ax L.length c L.length cx _ _ (toInts L) (toInts L) _ (Reads.of_own (own_only hown (Only.still (Only.drew (Only.refl _ w5)) hs6) (fun _ _ h => h))) (Reads.of_own (own_only hownx (Only.still (Only.drew (Only.refl _ w5)) hs6) (fun _ _ h => h))) (by omega) (by omega)).mono ?_; rintro e w7 ⟨rfl, q, rfl⟩)))
  have hown7 : (w6.drewN q).ownsRow w2.heap.size 3 1 (.slice A L.length c) L.length ((toInts L).map (.int .i64)) := own_only hown ((Only.still (Only.drew (Only.refl _ w5)) hs6).drewN q) (fun _ _ h => h)
  have hst7 : Still w (w6.drewN q) := (hst5.drew.still hs6).drewN q
  generalize w6.drewN q = w7 at *
  clear hown hb5 hst5 hbx hownx c1 hbd hs6 hc6
  go_wp2_with fail
  go_loopw [15] (fun i wr => ∃ (k : Nat) (xs : List Int), k ≤ L.length ∧ i = .int .i64 k ∧ wr.ownsRow w2.heap.size 3 1 (.slice A L.length c) L.length (xs.map (.int .i64)) ∧ Hid (Still w wr)) (fun i _ => L.length - (intOf i).toNat)
  case atStart => exact ⟨0, _, by omega, rfl, hown7, Lib.hid hst7⟩
  case round =>
    clear hown7 hst7
    obtain ⟨k, xs, hk, rfl, hown, hst⟩ := hrel
    by_cases hlt : k < L.length
    · obtain ⟨b', rfl⟩ : ∃ b', A = some ⟨b', 0, none⟩ := by
        rcases hown.2 with ⟨h', h0⟩ | ⟨b', cap, cur, h', _⟩
        · omega
        · injection h' with h1
          exact ⟨b', h1⟩
      have hLl : xs.length = L.length := by simpa using hown.1
      have hcc : wr.cell? ⟨b', k, none⟩ = some (.int .i64 (xs.getD k 0)) := own_cell hown (by rw [hLl]; exact hlt)
      have hf := hown.frozenAt k
      have hbw := Hogk.out b' rfl
      clear hLl
      go_wp2_with fail
      go_roundw
      case rel =>
        refine ⟨k + 1, xs.set k (-9), by omega, by go_num, ?_, Lib.hid (hst.out.setCell (p := ⟨b', k, none⟩) (.inr hbw) _)⟩
        rw [List.map_set]; exact (hown.stored k _).1
      case measure => simp [intOf]; omega
    · go_wp2_with fail
      go_ret
      exact ⟨rfl, hst.out⟩

set_option maxRecDepth 1000000 in
set_option maxHeartbeats 6400000 in
theorem plays_walk (w : World) (n : Nat) (hn : n ≤ 256) (C : Option Addr) (m cc : Nat) (l : List (Int × Int)) (hm : m ≤ 1000) (hl : l.length = m) (hr : Reads w w.heap.size 2 C m (actCells l))
    (hw : ∀ p ∈ l, (Lit.int .u8 p.1).wf = true ∧ (Lit.int .i64 p.2).wf = true) :
    Calls Try.prog 4 #[.int .i64 n, .slice C m cc] w fun e w' => e = .returned (.bool true) ∧ Still w w' := by
  have h1000 : ¬ (1000 : Int) < (m : Int) := by omega
  have Hl := Lib.hid hl
  have Hw := Lib.hid hw
  clear hl hw
  go_enter Try.func4, Try.ntmps4
  go_wp2_with fail
  refine (New_in n hn).mono ?_
  rintro e w1 ⟨g, rfl, hg, hb1, hs1⟩
  go_wp2_with fail
  refine (refl_new_in n hn).mono ?_
  rintro e w2 ⟨g', rfl, hg', hx2, hs2⟩
  have hb2 := hb1.still hs2
  have hst2 := hs1.still hs2
  have hx2 := hx2.base hs1.size
  have hgw' : w.heap.size ≤ g' := by have := hs1.size; omega
  clear hb1 hs1 hs2 hg'
  go_wp2_with fail
  go_loopw [5, 7, 9] (fun t x i wr => ∃ (k g g' : Nat) (L : List Nat), k ≤ m ∧ i = .int .i64 k ∧ t = .pointer (some ⟨g, 0, none⟩) ∧ x = .pointer (some ⟨g', 0, none⟩) ∧ w.heap.size ≤ g ∧ w.heap.size ≤ g' ∧ LL n L ∧ Lst wr g n L ∧ RefL wr w.heap.size g' n (toInts L) ∧ Hid (Still w wr)) (fun _ _ i _ => m - (intOf i).toNat)
  case atStart => exact ⟨0, g, g', [], by omega, rfl, rfl, rfl, hg, hgw', LL.nil n hn, hb2, hx2, Lib.hid hst2⟩
  case round =>
    clear hb2 hx2 hst2 hg hgw'
    obtain ⟨k, g, g', L, hk, rfl, rfl, rfl, hg, hgw', hlk, hb, hx, hst⟩ := hrel
    by_cases hlt : k < m
    · have hrr := hr.only hst.out (Nat.le_refl _) (fun _ _ h => h)
      obtain ⟨bl, off, a, p, rfl, hbl, hlk2, c0, c1⟩ := act_cells hrr Hl.out hlt
      have hwa := Hw.out _ (List.mem_of_getElem? hlk2)
      have ha0 : 0 ≤ a ∧ a < 256 := wf_u8 hwa.1
      obtain ⟨ha0, ha2⟩ := ha0
      clear hrr hwa hlk2
      obtain ⟨β, hβ⟩ : ∃ β, β = wr.heap.size := ⟨_, rfl⟩
      obtain ⟨W, hW⟩ : ∃ W, W = wr.alloc (Obj.cells #[Value.int .u8 a, Value.int .i64 p] 44) := ⟨_, rfl⟩
      have hbW : Lst W g n L := by rw [hW]; exact hb.alloc _
      have hxW : RefL W w.heap.size g' n (toInts L) := by rw [hW]; exact hx.still (Still.new _ _)
      have hsW : Still w W := by rw [hW]; exact hst.out.alloc _
      have hblkW : Blk W β 44 #[Value.int .u8 a, Value.int .i64 p] := by rw [hW]; exact Blk.at_ _ _ _ hβ
      have hcp : W.cell? ⟨β, 1, none⟩ = some (.int .i64 p) := hblkW.cell 1
      have hgβ : g < β := by rw [hβ]; exact Blk.lt hb
      have hgβ' : g' < β := by rw [hβ]; exact hx.lt
      have hwW : w.heap.size ≤ W.heap.size := hsW.size
      have HW := Lib.hid hW
      have Hβ := Lib.hid hβ
      clear hb hx hst hW hβ
      by_cases a0 : a = 0
      · subst a0
        obtain ⟨u, hu⟩ : ∃ u : Int, u = (if 0 ≤ p ∧ p < (n : Int) then 0 else 1) := ⟨_, rfl⟩
        have Hu := Lib.hid hu
        have hxd : RefL W.drew w.heap.size g' n (toInts L) := hxW.still ((Only.refl _ _).drew)
        have hbd : Lst W.drew g n L := hbW
        have hl5 := doAct_ok hlk (0, p)
        clear hu
        go_wp2_with fail
        rw [← HW.out, ← Hβ.out]
        go_region_held3 (fun w' => w'.cell? ⟨β, 1, none⟩ = some (.int .i64 p)) (first | go_keep | exact hc4 | exact hc5 | exact hcp)
          ((first
          | (go_at_call 11; refine (Use_act hbd hlk p).mono ?_; rintro e w4 ⟨he, hb4, ho4⟩; rw [← Hu.out] at he; subst he; have hc4 := ho4.cell_some (p := ⟨β, 1, none⟩) (show ¬ β = g by omega) (show W.drew.cell? _ = _ from hcp))
          | (go_at_call 20; refine (refl_use (hxd.by_lst hbd ho4) hlk (by have := ho4.size; simp at this; omega) p).mono ?_; rintro e w5 ⟨he, hx5, ho5⟩; rw [← Hu.out] at he; subst he; have hc5 := ho5.cell_some (p := ⟨β, 1, none⟩) (show ¬ β = g' by omega) hc4)))
        have hb5 := hb4.by_ref (hxd.by_lst hbd ho4) ho5
        have hst5 := Still.only (Still.only hsW.drew ho4 hg) ho5 hgw'
        clear hbW hxW hsW hblkW hcp hxd hbd hb4 ho4 ho5 hc4 c0 c1
        generalize doAct n L (0, p) = M at *
        have hlen5 : (toInts M).length ≤ 1000000 := by rw [toInts_length]; have := hl5.length_le; omega
        have hbd5 : Lst (w5).drew g n M := hb5
        have hxd5 : RefL (w5).drew w.heap.size g' n (toInts M) := hx5.still ((Only.refl _ _).drew)
        have hcd5 := hc5
        have hst5 := hst5
        obtain ⟨d5, hd5⟩ : ∃ d : Bool, d = decide (p ∈ toInts M) := ⟨_, rfl⟩
        have Hd5 := Lib.hid hd5
        have Hlen5 := Lib.hid hlen5
        clear hd5 hlen5
        go_wp2_with fail
        go_region_held3 (fun w' => w'.cell? ⟨β, 1, none⟩ = some (.int .i64 p)) (first | go_keep | exact hc9 | exact hcd5)
          ((first
          | (go_at_call 15; refine (Has_same hbd5 hl5 p).mono ?_; rintro e wx ⟨he, rfl⟩; rw [← Hd5.out] at he; subst he)
          | (go_at_call 23; refine (refl_has hxd5 Hlen5.out p).mono ?_; rintro e wx ⟨he, rfl⟩; rw [← Hd5.out] at he; subst he)
          | (go_at_call 24; refine (alike_any hbd5 hl5 hxd5).mono ?_; rintro e w9 ⟨rfl, hs9⟩; have hc9 := hs9.cell_some (p := ⟨β, 1, none⟩) (fun h => h) hcd5)))
        have hb9 := Lst.still (show Lst _ g n M from hbd5) hs9
        have hx9 := hxd5.still hs9
        have hst9 := (hst5.drew).still hs9
        go_wp2
        go_roundw
        case rel => exact ⟨k + 1, g, g', M, by omega, by go_num, rfl, rfl, hg, hgw', hl5, hb9, hx9, Lib.hid hst9⟩
        case measure => simp [intOf]; omega
      · by_cases a1 : a = 1
        · subst a1
          obtain ⟨u, hu⟩ : ∃ u : Bool, u = decide (p ∈ toInts L) := ⟨_, rfl⟩
          have Hu := Lib.hid hu
          have hxd : RefL W.drew w.heap.size g' n (toInts L) := hxW.still ((Only.refl _ _).drew)
          have hbd : Lst W.drew g n L := hbW
          have hl5 := doAct_ok hlk (1, p)
          clear hu
          go_wp2_with fail
          rw [← HW.out, ← Hβ.out]
          go_region_held3 (fun w' => w'.cell? ⟨β, 1, none⟩ = some (.int .i64 p)) (first | go_keep | exact hc4 | exact hc5 | exact hcp)
            ((first
            | (go_at_call 16; refine (Drop_same hbd hlk p).mono ?_; rintro e w4 ⟨he, hb4, ho4⟩; rw [← Hu.out] at he; subst he; have hc4 := ho4.cell_some (p := ⟨β, 1, none⟩) (show ¬ β = g by omega) (show W.drew.cell? _ = _ from hcp))
            | (go_at_call 21; refine (refl_dropped (hxd.by_lst hbd ho4) hlk (by have := ho4.size; simp at this; omega) p).mono ?_; rintro e w5 ⟨he, hx5, ho5⟩; rw [← Hu.out] at he; subst he; have hc5 := ho5.cell_some (p := ⟨β, 1, none⟩) (show ¬ β = g' by omega) hc4)))
          have hb5 := hb4.by_ref (hxd.by_lst hbd ho4) ho5
          have hst5 := Still.only (Still.only hsW.drew ho4 hg) ho5 hgw'
          clear hbW hxW hsW hblkW hcp hxd hbd hb4 ho4 ho5 hc4 c0 c1
          generalize doAct n L (1, p) = M at *
          have hlen5 : (toInts M).length ≤ 1000000 := by rw [toInts_length]; have := hl5.length_le; omega
          have hbd5 : Lst (w5).drew g n M := hb5
          have hxd5 : RefL (w5).drew w.heap.size g' n (toInts M) := hx5.still ((Only.refl _ _).drew)
          have hcd5 := hc5
          have hst5 := hst5
          obtain ⟨d5, hd5⟩ : ∃ d : Bool, d = decide (p ∈ toInts M) := ⟨_, rfl⟩
          have Hd5 := Lib.hid hd5
          have Hlen5 := Lib.hid hlen5
          clear hd5 hlen5
          go_wp2_with fail
          go_region_held3 (fun w' => w'.cell? ⟨β, 1, none⟩ = some (.int .i64 p)) (first | go_keep | exact hc9 | exact hcd5)
            ((first
            | (go_at_call 15; refine (Has_same hbd5 hl5 p).mono ?_; rintro e wx ⟨he, rfl⟩; rw [← Hd5.out] at he; subst he)
            | (go_at_call 23; refine (refl_has hxd5 Hlen5.out p).mono ?_; rintro e wx ⟨he, rfl⟩; rw [← Hd5.out] at he; subst he)
            | (go_at_call 24; refine (alike_any hbd5 hl5 hxd5).mono ?_; rintro e w9 ⟨rfl, hs9⟩; have hc9 := hs9.cell_some (p := ⟨β, 1, none⟩) (fun h => h) hcd5)))
          have hb9 := Lst.still (show Lst _ g n M from hbd5) hs9
          have hx9 := hxd5.still hs9
          have hst9 := (hst5.drew).still hs9
          go_wp2
          go_roundw
          case rel => exact ⟨k + 1, g, g', M, by omega, by go_num, rfl, rfl, hg, hgw', hl5, hb9, hx9, Lib.hid hst9⟩
          case measure => simp [intOf]; omega
        · by_cases a2 : a = 2
          · subst a2
            go_wp2_with fail
            rw [← HW.out, ← Hβ.out]
            clear c0 c1
            refine (Copy_any hbW).mono ?_
            rintro e w3 ⟨g3, rfl, hg3, hc3, hs3⟩
            have hb3 := hbW.still hs3
            have hx3 := hxW.still hs3
            have hst3 := hsW.still hs3
            have hk3 := hs3.cell_some (p := ⟨β, 1, none⟩) (fun h => h) hcp
            have hβW : β < W.heap.size := hblkW.lt
            have hgg3 : g ≠ g3 := by omega
            clear hbW hxW hsW hblkW hcp hs3
            go_wp2_with fail
            refine (Use_act hb3 hlk p).mono ?_
            rintro e w4 ⟨he, hb4, ho4⟩
            generalize (if 0 ≤ p ∧ p < (n : Int) then (0 : Int) else 1) = u4 at he
            subst he
            have hl4 := doAct_ok hlk (0, p)
            generalize doAct n L (0, p) = M4 at *
            have hc4 : Lst w4 g3 n L := Blk.only hc3 ho4 (fun e => hgg3 e.symm)
            have hx4 := hx3.by_lst hb3 ho4
            have hst4 := Still.only hst3 ho4 hg
            have hk4 := ho4.cell_some (p := ⟨β, 1, none⟩) (show ¬ β = g by omega) hk3
            clear hc3 hx3 hst3 hk3 hb3 ho4
            go_wp2_with fail
            refine (Use_act hb4 hl4 0).mono ?_
            rintro e w5 ⟨he, hb5, ho5⟩
            generalize (if (0 : Int) ≤ 0 ∧ (0 : Int) < (n : Int) then (0 : Int) else 1) = u5 at he
            subst he
            have hl5 := doAct_ok hl4 (0, 0)
            generalize doAct n M4 (0, 0) = M5 at *
            have hc5 : Lst w5 g3 n L := Blk.only hc4 ho5 (fun e => hgg3 e.symm)
            have hx5 := hx4.by_lst hb4 ho5
            have hst5 := Still.only hst4 ho5 hg
            have hk5 := ho5.cell_some (p := ⟨β, 1, none⟩) (show ¬ β = g by omega) hk4
            clear hc4 hx4 hst4 hk4 hb4 ho5
            go_wp2_with fail
            refine (Drop_act hb5 hl5 1).mono ?_
            rintro e w6 ⟨rfl, hb6, ho6⟩
            have hc6 : Lst w6 g3 n L := Blk.only hc5 ho6 (fun e => hgg3 e.symm)
            have hx6 := hx5.by_lst hb5 ho6
            have hst6 := Still.only hst5 ho6 hg
            have hk6 := ho6.cell_some (p := ⟨β, 1, none⟩) (show ¬ β = g by omega) hk5
            clear hc5 hx5 hst5 hk5 hb5 ho6 hb6
            go_wp2_with fail
            refine (refl_copy hx6 (by rw [toInts_length]; have := hlk.length_le; omega)).mono ?_
            rintro e w7 ⟨g7, rfl, hg7, hx7, hs7⟩
            have hc7 := hc6.still hs7
            have hst7 := hst6.still hs7
            have hk7 := hs7.cell_some (p := ⟨β, 1, none⟩) (fun h => h) hk6
            have hx7 := hx7.base (b' := w.heap.size) hst6.size
            have hgw3 : w.heap.size ≤ g3 := by omega
            have hgw7 : w.heap.size ≤ g7 := by have := hst6.size; omega
            clear hc6 hx6 hst6 hk6 hs7
            have hlen5 : (toInts L).length ≤ 1000000 := by rw [toInts_length]; have := hlk.length_le; omega
            have hbd5 : Lst (w7).drew g3 n L := hc7
            have hxd5 : RefL (w7).drew w.heap.size g7 n (toInts L) := hx7.still ((Only.refl _ _).drew)
            have hcd5 := hk7
            have hst5 := hst7
            obtain ⟨d5, hd5⟩ : ∃ d : Bool, d = decide (p ∈ toInts L) := ⟨_, rfl⟩
            have Hd5 := Lib.hid hd5
            have Hlen5 := Lib.hid hlen5
            clear hd5 hlen5
            go_wp2_with fail
            go_region_held3 (fun w' => w'.cell? ⟨β, 1, none⟩ = some (.int .i64 p)) (first | go_keep | exact hc9 | exact hcd5)
              ((first
              | (go_at_call 15; refine (Has_same hbd5 hlk p).mono ?_; rintro e wx ⟨he, rfl⟩; rw [← Hd5.out] at he; subst he)
              | (go_at_call 23; refine (refl_has hxd5 Hlen5.out p).mono ?_; rintro e wx ⟨he, rfl⟩; rw [← Hd5.out] at he; subst he)
              | (go_at_call 24; refine (alike_any hbd5 hlk hxd5).mono ?_; rintro e w9 ⟨rfl, hs9⟩; have hc9 := hs9.cell_some (p := ⟨β, 1, none⟩) (fun h => h) hcd5)))
            have hb9 := Lst.still (show Lst _ g3 n L from hbd5) hs9
            have hx9 := hxd5.still hs9
            have hst9 := (hst5.drew).still hs9
            go_wp2
            go_roundw
            case rel => exact ⟨k + 1, g3, g7, L, by omega, by go_num, rfl, rfl, hgw3, hgw7, hlk, hb9, hx9, Lib.hid hst9⟩
            case measure => simp [intOf]; omega
          · have n0 : (a == 0) = false := by simp [a0]
            have n1 : (a == 1) = false := by simp [a1]
            have n2 : (a == 2) = false := by simp [a2]
            have hlen5 : (toInts L).length ≤ 1000000 := by rw [toInts_length]; have := hlk.length_le; omega
            have hbd5 : Lst (W).drew g n L := hbW
            have hxd5 : RefL (W).drew w.heap.size g' n (toInts L) := hxW.still ((Only.refl _ _).drew)
            have hcd5 := hcp
            have hst5 := hsW
            obtain ⟨d5, hd5⟩ : ∃ d : Bool, d = decide (p ∈ toInts L) := ⟨_, rfl⟩
            have Hd5 := Lib.hid hd5
            have Hlen5 := Lib.hid hlen5
            clear hd5 hlen5
            go_wp2_with fail
            rw [← HW.out, ← Hβ.out]
            go_region_held3 (fun w' => w'.cell? ⟨β, 1, none⟩ = some (.int .i64 p)) (first | go_keep | exact hc9 | exact hcd5)
              ((first
              | (go_at_call 15; refine (Has_same hbd5 hlk p).mono ?_; rintro e wx ⟨he, rfl⟩; rw [← Hd5.out] at he; subst he)
              | (go_at_call 23; refine (refl_has hxd5 Hlen5.out p).mono ?_; rintro e wx ⟨he, rfl⟩; rw [← Hd5.out] at he; subst he)
              | (go_at_call 24; refine (alike_any hbd5 hlk hxd5).mono ?_; rintro e w9 ⟨rfl, hs9⟩; have hc9 := hs9.cell_some (p := ⟨β, 1, none⟩) (fun h => h) hcd5)))
            have hb9 := Lst.still (show Lst _ g n L from hbd5) hs9
            have hx9 := hxd5.still hs9
            have hst9 := (hst5.drew).still hs9
            go_wp2
            go_roundw
            case rel => exact ⟨k + 1, g, g', L, by omega, by go_num, rfl, rfl, hg, hgw', hlk, hb9, hx9, Lib.hid hst9⟩
            case measure => simp [intOf]; omega
    · go_wp2_with fail
      refine (lru_awake _).mono ?_
      rintro e w6 ⟨rfl, ho6⟩
      go_wp2_with fail
      go_ret
      exact ⟨rfl, hst.out.still ho6⟩

theorem plays_refused (w : World) (n : Int) (hn : n < 0 ∨ 256 < n) (C : Option Addr) (m cc : Nat) (hm : m ≤ 1000) :
    Calls Try.prog 4 #[.int .i64 n, .slice C m cc] w fun e w' => e = .returned (.bool true) ∧ Still w w' := by
  have h1000 : ¬ (1000 : Int) < (m : Int) := by omega
  go_enter Try.func4, Try.ntmps4
  go_wp2_with fail
  refine (New_out n hn).mono ?_
  rintro e w1 ⟨rfl, rfl⟩
  go_wp2_with fail
  refine (refl_new_out n hn).mono ?_
  rintro e w2 ⟨rfl, rfl⟩
  go_wp2_with fail
  refine (lru_awake _).mono ?_
  rintro e w0 ⟨rfl, ho0⟩
  go_wp2
  go_ret
  exact ⟨rfl, ho0⟩

theorem plays_long (w : World) (n : Int) (C : Option Addr) (m cc : Nat) (h : 1000 < m) :
    Calls Try.prog 4 #[.int .i64 n, .slice C m cc] w fun e w' => e = .returned (.bool true) ∧ Still w w' := by
  have h5 : (1000 : Int) < (m : Int) := by omega
  go_enter Try.func4, Try.ntmps4
  go_wp2_with fail
  refine (lru_awake _).mono ?_
  rintro e w0 ⟨rfl, ho0⟩
  go_wp2
  go_ret
  exact ⟨rfl, ho0⟩

theorem plays_all (w : World) (n : Int) (wf : (Lit.int .i64 n).wf = true) (C : Option Addr) (m cc : Nat) (l : List (Int × Int)) (hmc : m ≤ cc) (hc : cc ≤ maxLen) (hl : l.length = m) (hr : Reads w w.heap.size 2 C m (actCells l))
    (hw : ∀ p ∈ l, (Lit.int .u8 p.1).wf = true ∧ (Lit.int .i64 p.2).wf = true) :
    Calls Try.prog 4 #[.int .i64 n, .slice C m cc] w fun e w' => e = .returned (.bool true) ∧ Still w w' := by
  by_cases h : 1000 < m
  · exact plays_long w n C m cc h
  · by_cases hn : n < 0 ∨ 256 < n
    · exact plays_refused w n hn C m cc (by omega)
    · obtain ⟨k, rfl⟩ : ∃ k : Nat, n = (k : Int) := ⟨n.toNat, by omega⟩
      exact plays_walk w k (by omega) C m cc l (by omega) hl hr hw
end Go.Proofs.Ytfbknjboceheaaa
