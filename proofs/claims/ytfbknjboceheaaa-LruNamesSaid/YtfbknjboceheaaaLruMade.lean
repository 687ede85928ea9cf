/-
  Package lru: a list behind acts (hustingslaw15.made).
-/
import Derived.Test.YtfbknjboceheaaaLruAwake
import Derived.Test.YtfbknjboceheaaaLruActs
namespace Go.Proofs.Ytfbknjboceheaaa
open Go.RowKit
set_option linter.unusedVariables false

/-- What acts make of a row of places. -/
def doAct (n : Nat) (L : List Nat) (a : Int × Int) : List Nat :=
  if 0 ≤ a.2 ∧ a.2 < n then
    if a.1 = 0 then out (a.2.toNat + 1) L ++ [a.2.toNat + 1]
    else if a.1 = 1 then out (a.2.toNat + 1) L else L
  else L
def doActs (n : Nat) (l : List (Int × Int)) : List Nat := l.foldl (doAct n) []
theorem doAct_ok {n : Nat} {L : List Nat} (h : LL n L) (a : Int × Int) : LL n (doAct n L a) := by
  unfold doAct
  split
  · split
    · exact h.used (by omega) (by omega)
    · split
      · exact h.out _
      · exact h
  · exact h
theorem doActs_ok {n : Nat} (hn : n ≤ 256) (l : List (Int × Int)) : LL n (doActs n l) := by
  unfold doActs
  have : ∀ (l : List (Int × Int)) (L : List Nat), LL n L → LL n (l.foldl (doAct n) L) := by
    intro l
    induction l with
    | nil => exact fun L h => h
    | cons a l ih => exact fun L h => ih _ (doAct_ok h a)
  exact this l [] (LL.nil n hn)
theorem doActs_snoc {n : Nat} {l : List (Int × Int)} {k : Nat} {a : Int × Int} (h : l[k]? = some a) : doActs n (l.take (k + 1)) = doAct n (doActs n (l.take k)) a := by
  unfold doActs
  rw [List.take_add_one, h, List.foldl_append]
  rfl
theorem add_none (b off n : Nat) : (⟨b, off, none⟩ : Addr).add n = ⟨b, off + n, none⟩ := by
  unfold Addr.add; split <;> simp_all
theorem act_cells {w : World} {B m : Nat} {C : Option Addr} {l : List (Int × Int)} (h : Reads w B 2 C m (actCells l)) (hl : l.length = m) {k : Nat} (hk : k < m) :
    ∃ bl off a b, C = some ⟨bl, off, none⟩ ∧ bl < B ∧ l[k]? = some (a, b) ∧ w.cell? ⟨bl, off + k * 2, none⟩ = some (.int .u8 a) ∧ w.cell? ⟨bl, off + k * 2 + 1, none⟩ = some (.int .i64 b) := by
  obtain ⟨ad, e, hb, hc⟩ := h.2 (by omega)
  have hk' : k < l.length := by omega
  have hx := actCells_at l k l[k] (List.getElem?_eq_getElem hk')
  have c0 := hc _ _ hx.1
  have c1 := hc _ _ hx.2
  obtain ⟨bl, off, spot⟩ := ad
  have hspot : spot = none := by
    have h0 := actCells_at l 0 (l[0]'(by omega)) (List.getElem?_eq_getElem (by omega))
    have := World.cell?_spot (hc _ _ h0.1)
    simpa [Addr.add] using this
  subst hspot
  rw [add_none] at c0 c1
  exact ⟨bl, off, l[k].1, l[k].2, e, hb, List.getElem?_eq_getElem hk', c0, c1⟩

/-- Use, whatever the place. -/
theorem Use_act {w : World} {g n : Nat} {L : List Nat} (hb : Lst w g n L) (hl : LL n L) (p : Int) :
    Calls Try.prog 11 #[.pointer (some ⟨g, 0, none⟩), .int .i64 p] w fun e w' => e = .returned (.int .i64 (if 0 ≤ p ∧ p < n then 0 else 1)) ∧ Lst w' g n (doAct n L (0, p)) ∧ Only (· = g) w w' := by
  by_cases h : 0 ≤ p ∧ p < (n : Int)
  · obtain ⟨k, rfl⟩ : ∃ k : Nat, p = (k : Int) := ⟨p.toNat, by omega⟩
    refine (Use_in hb hl k (k + 1) rfl (by omega)).mono ?_
    rintro e w' ⟨rfl, h1, h2⟩
    refine ⟨by rw [if_pos h], ?_, h2⟩
    have e : doAct n L (0, (k : Int)) = out (k + 1) L ++ [k + 1] := by
      unfold doAct
      simp only [h, and_self, if_true, Int.toNat_natCast]
    rw [e]; exact h1
  · refine (Use_out hb p h).mono ?_
    rintro e w' ⟨rfl, rfl⟩
    refine ⟨by rw [if_neg h], ?_, Only.refl _ _⟩
    have e : doAct n L (0, p) = L := by unfold doAct; rw [if_neg h]
    rw [e]; exact hb
theorem Drop_act {w : World} {g n : Nat} {L : List Nat} (hb : Lst w g n L) (hl : LL n L) (p : Int) :
    Calls Try.prog 16 #[.pointer (some ⟨g, 0, none⟩), .int .i64 p] w fun e w' => e = .returned (.bool (decide (0 ≤ p ∧ p < n ∧ p.toNat + 1 ∈ L))) ∧ Lst w' g n (doAct n L (1, p)) ∧ Only (· = g) w w' := by
  by_cases h : 0 ≤ p ∧ p < (n : Int)
  · obtain ⟨k, rfl⟩ : ∃ k : Nat, p = (k : Int) := ⟨p.toNat, by omega⟩
    refine (Drop_in hb hl k (k + 1) rfl (by omega)).mono ?_
    rintro e w' ⟨rfl, h1, h2⟩
    refine ⟨ret_bool ?_, ?_, h2⟩
    · simp [h.2]
    · have e : doAct n L (1, (k : Int)) = out (k + 1) L := by
        unfold doAct
        simp [h.2]
      rw [e]; exact h1
  · refine (Drop_out hb p h).mono ?_
    rintro e w' ⟨rfl, rfl⟩
    refine ⟨ret_bool (decide_eq_false (fun x => h ⟨x.1, x.2.1⟩)).symm, ?_, Only.refl _ _⟩
    have e : doAct n L (1, p) = L := by unfold doAct; rw [if_neg h]
    rw [e]; exact hb

set_option maxRecDepth 1000000 in
set_option maxHeartbeats 6400000 in
theorem made_any {w : World} (n : Int) (C : Option Addr) (m cc : Nat) (l : List (Int × Int)) (hm : m ≤ 1000000) (hl : l.length = m) (hr : Reads w w.heap.size 2 C m (actCells l))
    (hw : ∀ p ∈ l, (Lit.int .u8 p.1).wf = true ∧ (Lit.int .i64 p.2).wf = true) :
    Calls Try.prog 25 #[.int .i64 n, .slice C m cc] w fun e w' => ∃ g K : Nat, e = .returned (.tuple #[.pointer (some ⟨g, 0, none⟩), .int .i64 K]) ∧ 1 ≤ K ∧ K ≤ 256 ∧ w.heap.size ≤ g ∧ Lst w' g K (doActs K l) ∧ Still w w' := by
  have Hl := Lib.hid hl
  have Hw := Lib.hid hw
  clear hl hw
  obtain ⟨r, hr0⟩ : ∃ r : Nat, r = ((IntKind.u64.wrap n) % 256).toNat := ⟨_, rfl⟩
  have hu : 0 ≤ IntKind.u64.wrap n := by rw [IntKind.wrap_u64]; omega
  have hr256 : r < 256 := by omega
  have htm : (IntKind.u64.wrap n).tmod 256 = (r : Int) := by rw [Int.tmod_eq_emod_of_nonneg hu]; omega
  have hri : (r : Int) < 256 := by omega
  obtain ⟨K, hK⟩ : ∃ K, K = 1 + r := ⟨_, rfl⟩
  have hKi : 1 + (r : Int) = (K : Int) := by omega
  have hK1 : 1 ≤ K := by omega
  have hK2 : K ≤ 256 := by omega
  clear hr0 hK
  go_enter Try.func25, Try.ntmps25
  go_wp2_with fail
  refine (New_in K hK2).mono ?_
  rintro e w1 ⟨g, rfl, hg, hb1, hs1⟩
  have hr1 := hr.only hs1 (Nat.le_refl _) (fun _ _ h => h)
  clear hr
  go_wp2_with fail
  go_loopw [9] (fun i wr => ∃ k : Nat, k ≤ m ∧ i = .int .i64 k ∧ Lst wr g K (doActs K (l.take k)) ∧ Reads wr w.heap.size 2 C m (actCells l) ∧ Hid (Still w wr)) (fun i _ => m - (intOf i).toNat)
  case atStart => exact ⟨0, by omega, rfl, hb1, hr1, Lib.hid hs1⟩
  case round =>
    clear hb1 hr1 hs1
    obtain ⟨k, hk, rfl, hb, hr, hst⟩ := hrel
    have hlk0 := doActs_ok hK2 (l.take k)
    by_cases hlt : k < m
    · obtain ⟨bl, off, a, p, rfl, hbl, hlk, c0, c1⟩ := act_cells hr Hl.out hlt
      have hnext := doActs_snoc (n := K) hlk
      have hbg : ¬ bl = g := by omega
      have Hnext := Lib.hid hnext
      clear hnext hlk
      generalize doActs K (l.take k) = L at *
      by_cases ha0 : a = 0
      · subst ha0
        go_wp2_with fail
        refine (Use_act hb hlk0 p).mono ?_
        rintro e w3 ⟨rfl, hb3, ho3⟩
        have hs3 : Still w w3 := hst.out.trans ho3 (fun i hi e => by omega)
        have hr3 := hr.only ho3 hst.out.size (fun i hi e => by omega)
        go_wp2_with fail
        go_roundw
        case rel => exact ⟨k + 1, by omega, by go_num, by rw [Hnext.out]; exact hb3, hr3, Lib.hid hs3⟩
        case measure => simp [intOf]; omega
      · by_cases ha1 : a = 1
        · subst ha1
          go_wp2_with fail
          refine (Drop_act hb hlk0 p).mono ?_
          rintro e w3 ⟨rfl, hb3, ho3⟩
          have hs3 : Still w w3 := hst.out.trans ho3 (fun i hi e => by omega)
          have hr3 := hr.only ho3 hst.out.size (fun i hi e => by omega)
          go_wp2_with fail
          go_roundw
          case rel => exact ⟨k + 1, by omega, by go_num, by rw [Hnext.out]; exact hb3, hr3, Lib.hid hs3⟩
          case measure => simp [intOf]; omega
        · have e : doAct K L (a, p) = L := by
            unfold doAct
            simp [ha0, ha1]
          have E := Lib.hid e
          clear e
          go_wp2_with fail
          go_roundw
          case rel => exact ⟨k + 1, by omega, by go_num, by rw [Hnext.out, E.out]; exact hb, hr, hst⟩
          case measure => simp [intOf]; omega
    · have hkn : k = m := by omega
      subst hkn
      rw [List.take_of_length_le (by rw [Hl.out]; exact Nat.le_refl _)] at hb
      go_wp2_with fail
      go_ret2
      exact ⟨g, K, rfl, hK1, hK2, hg, hb, hst.out⟩
end Go.Proofs.Ytfbknjboceheaaa
