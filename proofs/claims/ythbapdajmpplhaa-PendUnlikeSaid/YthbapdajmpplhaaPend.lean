/-
  Package pend: a table in memory; what its functions do.
-/
import Derived.Test.YthbapdajmpplhaaPendMath
import Derived.Test.YthbapdajmpplhaaMapDel
import Derived.Test.YthbapdajmpplhaaDraw
import Derived.Deep.RegionHeld3
import Derived.Maps.OwnSet
import Derived.StillTailTactics
namespace Go.Proofs.Ythbapdajmpplhaa
open Go.RowKit
open Go.Maps (Keyed)
set_option linter.unusedVariables false
set_option linter.unusedSimpArgs false

theorem klaw_u16 : Keyed Try.prog 32 := Maps.int_keyed Try.underlying32
theorem zero_i (w : World) : (zeroValue 3).run Try.prog w = .ok (.int .i64 0) w := by kernel_rfl
theorem key_u16 {n : Nat} (hn : n < 65536) : keyOf Try.prog 32 (.int .u16 n) = some (.int .u16 n) :=
  Maps.keyOf_int_mk Try.underlying32 (by simp [Lit.wf, IntKind.min, IntKind.max, IntKind.signed, IntKind.bits]; omega)
theorem eqlm_some (b : Nat) (w : World) : (binOp .eql 69 (.map (some b)) (.map none)).run Try.prog w = .ok (.bool false) w := by kernel_rfl
theorem eqlm_none (w : World) : (binOp .eql 69 (.map none) (.map none)).run Try.prog w = .ok (.bool true) w := by kernel_rfl

def mV (b : Nat) : Value := .map (some b)
def bsV (bs : List Nat) : List Value := bs.map mV

structure PT (w : World) (t : Nat) (bs : List Nat) (L : List Out) : Prop where
  tab : ∃ A c, Blk w t 41 #[.slice A bs.length c] ∧ w.ownsRow 0 69 1 (.slice A bs.length c) bs.length (bsV bs)
  nd : bs.Nodup
  maps : ∀ u b, bs[u]? = some b → MapIs w Try.prog 32 b (lenO L u) (atU L u)
  inv : Inv bs.length L
  nine : bs.length ≤ 9

section
variable {w w' : World} {t : Nat} {bs : List Nat} {L : List Out}
theorem PT.map_blk (h : PT w t bs L) {i : Nat} (hi : i ∈ bs) : ∃ es clock, w.heap[i]? = some (.map es clock) := by
  obtain ⟨u, hu, e⟩ := List.getElem_of_mem hi
  have h1 := h.maps u i (by rw [List.getElem?_eq_getElem hu, e])
  exact h1.is_map
theorem PT.only {S : Nat → Prop} (h : PT w t bs L) (o : Only S w w') (hb : ∀ i, S i → i ∉ bs) (hS : ∀ i, S i → ∀ cs T, w.heap[i]? = some (.cells cs T (0, 0)) → T ≠ 41 ∧ T ≠ 69) : PT w' t bs L := by
  obtain ⟨A, c, h1, h2⟩ := h.tab
  refine ⟨⟨A, c, h1.only o (fun hs => (hS _ hs _ _ h1).1 rfl), own_only h2 o (fun k hk hs => ?_)⟩, h.nd, fun u b hu => (h.maps u b hu).only o (fun hs => hb b hs (List.mem_of_getElem? hu)), h.inv, h.nine⟩
  rcases h2.2 with ⟨e, _⟩ | ⟨g', cap, cur, e, _, hh, _⟩
  · rw [e] at hk; simp [Value.ownBlock] at hk
  · rw [e] at hk
    simp [Value.ownBlock] at hk
    subst hk
    exact (hS _ hs _ _ hh).2 rfl
theorem PT.still (h : PT w t bs L) (o : Still w w') : PT w' t bs L := h.only o (fun _ h => h.elim) (fun _ h => h.elim)
/-- Maps that are not the table's. -/
theorem PT.maps_only {S : Nat → Prop} (h : PT w t bs L) (o : Only S w w') (hS : ∀ i, S i → i ∉ bs ∧ ∃ es c, w.heap[i]? = some (.map es c)) : PT w' t bs L :=
  h.only o (fun i hi => (hS i hi).1) (fun i hi cs T e => by obtain ⟨es, c, e'⟩ := (hS i hi).2; rw [e] at e'; cases e')
theorem PT.other {t2 : Nat} {bs2 : List Nat} {L2 : List Out} (h : PT w t bs L) (h2 : PT w t2 bs2 L2) (o : Only (· ∈ bs2) w w') (hd : ∀ i, i ∈ bs2 → i ∉ bs) : PT w' t bs L :=
  h.maps_only o (fun i hi => ⟨hd i hi, h2.map_blk hi⟩)
theorem PT.tape {g n : Nat} {seed : Int} {xs : List Int} (h : PT w t bs L) (ht : Tape w g seed xs n) (o : Only (· = g) w w') : PT w' t bs L := by
  obtain ⟨f, hf, _⟩ := ht.src
  refine h.only o (fun i e hi => ?_) (fun i e cs T hc => ?_)
  · subst e
    obtain ⟨es, c, e'⟩ := h.map_blk hi
    unfold Blk at hf
    rw [hf] at e'
    cases e'
  · subst e
    have : T = 74 := by
      unfold Blk at hf
      rw [hf] at hc
      cases hc
      rfl
    subst this
    exact ⟨by decide, by decide⟩
theorem Tape.maps {g n : Nat} {seed : Int} {xs : List Int} (ht : Tape w g seed xs n) (h : PT w t bs L) (o : Only (· ∈ bs) w w') : Tape w' g seed xs n := by
  refine ht.only o (fun hg => ?_) (fun k T cs hk e => ?_)
  · obtain ⟨f, hf, _⟩ := ht.src
    obtain ⟨es, c, e'⟩ := h.map_blk hg
    unfold Blk at hf
    rw [hf] at e'
    cases e'
  · obtain ⟨es, c, e'⟩ := h.map_blk hk
    rw [e] at e'
    cases e'
theorem PT.t_lt (h : PT w t bs L) : t < w.heap.size := by
  obtain ⟨A, c, h1, _⟩ := h.tab
  exact h1.lt
theorem PT.b_lt (h : PT w t bs L) {i : Nat} (hi : i ∈ bs) : i < w.heap.size := by
  obtain ⟨es, c, e⟩ := h.map_blk hi
  exact (Array.getElem?_eq_some_iff.1 e).1
end

def inU (u : Int) (bs : List Nat) : Option Nat := if 0 ≤ u then bs[u.toNat]? else none

set_option maxRecDepth 100000 in
/-- at: the map of an upstream. -/
theorem at_in {w : World} {t : Nat} {bs : List Nat} {L : List Out} (h : PT w t bs L) (u : Nat) (b : Nat) (hu : bs[u]? = some b) :
    Calls Try.prog 32 #[.pointer (some ⟨t, 0, none⟩), .int .i64 u] w fun e w' => e = .returned (.map (some b)) ∧ w = w' := by
  obtain ⟨A, c, h1, h2⟩ := h.tab
  have c0 := h1.cell 0
  simp at c0
  have hlt : u < bs.length := (List.getElem?_eq_some_iff.1 hu).1
  have hx : (bsV bs)[u]? = some (.map (some b)) := by unfold bsV; rw [List.getElem?_map, hu]; rfl
  have hu0 : ¬ (u : Int) < 0 := by omega
  have hu1 : ¬ (bs.length : Int) ≤ (u : Int) := by omega
  rcases h2.2 with ⟨e, h0⟩ | ⟨g', cap, cur, e, _, hh, _⟩
  · omega
  · cases e
    have cu := h2.cells (g := g') rfl u _ hx
    have ha : (⟨g', 0, none⟩ : Addr).add u = ⟨g', u, none⟩ := by unfold Addr.add; split <;> simp_all
    rw [ha] at cu
    clear hx h2
    go_enter Try.func32, Try.ntmps32
    go_wp2
    go_ret
    exact ⟨rfl, rfl⟩
set_option maxRecDepth 100000 in
theorem at_out {w : World} {t : Nat} {bs : List Nat} {L : List Out} (h : PT w t bs L) (u : Int) (hu : u < 0 ∨ (bs.length : Int) ≤ u) :
    Calls Try.prog 32 #[.pointer (some ⟨t, 0, none⟩), .int .i64 u] w fun e w' => e = .returned (.map none) ∧ w = w' := by
  obtain ⟨A, c, h1, h2⟩ := h.tab
  have c0 := h1.cell 0
  simp at c0
  go_enter Try.func32, Try.ntmps32
  by_cases hn : u < 0
  · go_wp2
    go_ret
    exact ⟨rfl, rfl⟩
  · have hu1 : (bs.length : Int) ≤ u := by omega
    go_wp2
    go_ret
    exact ⟨rfl, rfl⟩
theorem at_nil (u : Int) (w : World) :
    Calls Try.prog 32 #[.pointer none, .int .i64 u] w fun e w' => e = .returned (.map none) ∧ w = w' := by
  go_enter Try.func32, Try.ntmps32
  go_wp2
  go_ret
  exact ⟨rfl, rfl⟩

/-! ### Len, Find -/
def lenI (n : Nat) (L : List Out) (u : Int) : Nat := if 0 ≤ u ∧ u < n then lenO L u.toNat else 0
def findI (n : Nat) (L : List Out) (u : Int) (id : Nat) : Option Int := if 0 ≤ u ∧ u < n then findO L u.toNat id else none
set_option maxRecDepth 100000 in
theorem len_any {w : World} {t : Nat} {bs : List Nat} {L : List Out} (h : PT w t bs L) (u : Int) :
    Calls Try.prog 14 #[.pointer (some ⟨t, 0, none⟩), .int .i64 u] w fun e w' => e = .returned (.int .i64 (lenI bs.length L u : Nat)) ∧ w = w' := by
  by_cases hu : 0 ≤ u ∧ u < bs.length
  · obtain ⟨u', rfl⟩ : ∃ u' : Nat, u = u' := ⟨u.toNat, by omega⟩
    have hb : bs[u']? = some bs[u'] := List.getElem?_eq_getElem (by omega)
    have hl := (h.maps u' _ hb).len Try.underlying69
    have e : lenI bs.length L u' = lenO L u' := by unfold lenI; rw [if_pos hu]; rfl
    rw [e]
    go_enter Try.func14, Try.ntmps14
    go_wp2_with (go_at_call 32; refine (at_in h u' _ hb).mono ?_; rintro e w' ⟨rfl, rfl⟩)
    go_ret
    exact ⟨rfl, rfl⟩
  · have e : lenI bs.length L u = 0 := by unfold lenI; rw [if_neg hu]
    rw [e]
    go_enter Try.func14, Try.ntmps14
    go_wp2_with (go_at_call 32; refine (at_out h u (by omega)).mono ?_; rintro e w' ⟨rfl, rfl⟩)
    go_ret
    exact ⟨rfl, rfl⟩
set_option maxRecDepth 100000 in
theorem find_any {w : World} {t : Nat} {bs : List Nat} {L : List Out} (h : PT w t bs L) (u : Int) (id : Nat) (hid : id < 65536) :
    Calls Try.prog 17 #[.pointer (some ⟨t, 0, none⟩), .int .i64 u, .int .u16 id] w fun e w' =>
      e = .returned (.tuple #[.int .i64 ((findI bs.length L u id).getD 0), .bool (findI bs.length L u id).isSome]) ∧ w = w' := by
  by_cases hu : 0 ≤ u ∧ u < bs.length
  · obtain ⟨u', rfl⟩ : ∃ u' : Nat, u = u' := ⟨u.toNat, by omega⟩
    have hb : bs[u']? = some bs[u'] := List.getElem?_eq_getElem (by omega)
    have hl := (h.maps u' _ hb).look klaw_u16 Try.underlying69 (zero_i w) (key_u16 hid) true
    have e : findI bs.length L u' id = findO L u' id := by unfold findI; rw [if_pos hu]; rfl
    rw [e]
    rw [atU_nat] at hl
    rcases hf : findO L u' id with _ | s <;> rw [hf] at hl <;> simp only [Option.map, Option.getD, Option.isSome, if_true] at hl ⊢
    all_goals
      go_enter Try.func17, Try.ntmps17
      go_wp2_with (go_at_call 32; refine (at_in h u' _ hb).mono ?_; rintro e w' ⟨rfl, rfl⟩)
      go_ret2
      exact ⟨rfl, rfl⟩
  · have e : findI bs.length L u id = none := by unfold findI; rw [if_neg hu]
    rw [e]
    have hl := Maps.look_nil (P := Try.prog) (w := w) true klaw_u16 Try.underlying69 (zero_i w) (key_u16 hid)
    go_enter Try.func17, Try.ntmps17
    go_wp2_with (go_at_call 32; refine (at_out h u (by omega)).mono ?_; rintro e w' ⟨rfl, rfl⟩)
    go_ret2
    exact ⟨rfl, rfl⟩
set_option maxRecDepth 100000 in
theorem taken_any {w : World} {b n u : Nat} {L : List Out} (h : MapIs w Try.prog 32 b n (atU L u)) (id : Nat) (hid : id < 65536) :
    Calls Try.prog 33 #[.map (some b), .int .u16 id] w fun e w' => e = .returned (.bool (isO L u id)) ∧ w = w' := by
  have hl := h.look klaw_u16 Try.underlying69 (zero_i w) (key_u16 hid) true
  rw [atU_nat, ← findO_isO] at *
  rcases hf : findO L u id with _ | s <;> rw [hf] at hl <;> simp only [Option.map, Option.getD, Option.isSome, if_true] at hl ⊢
  all_goals
    go_enter Try.func33, Try.ntmps33
    go_wp2
    go_ret
    exact ⟨rfl, rfl⟩
end Go.Proofs.Ythbapdajmpplhaa
