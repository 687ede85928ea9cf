/-
  Package zone: a table as the row of its zones; which rows are tables; the zone of a name.
-/
import Derived.Test.YtinjfongndlpgaaKMap
import Derived.Test.YtinjfongndlpgaaNameTwo
namespace Go.Proofs.Ytinjfongndlpgaa
open Go.RowKit
set_option linter.unusedVariables false
set_option linter.unusedSimpArgs false

structure Zn where
  nm : ByteArray
  pol : Nat
  tr : Nat
deriving DecidableEq
def zC (z : Zn) : List Value := [.string z.nm, .int .u8 z.pol, .int .u16 z.tr]
def zV (z : Zn) : Value := .agg #[.string z.nm, .int .u8 z.pol, .int .u16 z.tr]
def none0 : Zn := ⟨mk [0], 1, 0⟩
/-- How many labels bytes have. -/
def nl (s : ByteArray) : Nat := if mayN s.data.toList = true then ((dec s.data.toList.length s.data.toList).getD []).length else 0
theorem nl_enc {L : List Lab} (h : okL L) : nl (mk (enc L)) = L.length := by
  unfold nl
  rw [mk_list, may_enc h, dec_enc L _ h.1 (Nat.le_refl _)]
  rfl
theorem nl_no {s : ByteArray} (h : mayN s.data.toList = false) : nl s = 0 := by
  unfold nl
  rw [h]
  rfl
theorem nl_le (s : ByteArray) : nl s ≤ 127 := by
  rcases h : mayN s.data.toList with _ | _
  · rw [nl_no h]; omega
  · obtain ⟨L, hL, e⟩ := may_mk h
    rw [e, nl_enc hL]
    exact hL.len
def good (z : Zn) : Bool := mayN z.nm.data.toList && decide (foldS z.nm = z.nm) && decide (1 ≤ z.pol) && decide (z.pol ≤ 4)
def hasN (Z : List Zn) (s : ByteArray) : Bool := Z.any (fun y => decide (y.nm = s))
def hasL (Z : List Zn) (L : Nat) : Bool := Z.any (fun y => decide (nl y.nm = L))
def add1 (Z : List Zn) (z : Zn) : Nat := if good z = false then 3 else if hasN Z z.nm = true then 7 else 0
def newE (Z : List Zn) : List Zn → Nat
  | [] => 0
  | z :: r => if add1 Z z = 0 then newE (Z ++ [z]) r else add1 Z z
def errZ (l : List Zn) : Nat := if 16 < l.length then 5 else newE [] l
def ofN (Z : List Zn) (s : ByteArray) : Option Zn := Z.find? (fun y => decide (y.nm = s))
def up (Z : List Zn) : List Lab → Option Zn
  | [] => ofN Z (mk (enc []))
  | x :: r => (ofN Z (mk (enc (x :: r)))).or (up Z r)
def findZ (Z : List Zn) (s : ByteArray) : Zn :=
  if mayN s.data.toList = true then (up Z (fold ((dec s.data.toList.length s.data.toList).getD []))).getD none0 else none0
theorem findZ_enc (Z : List Zn) {L : List Lab} (h : okL L) : findZ Z (mk (enc L)) = (up Z (fold L)).getD none0 := by
  unfold findZ
  rw [mk_list, may_enc h, dec_enc L _ h.1 (Nat.le_refl _)]
  rfl

/-- What the inner map of names of L labels holds. -/
def inAt (Z : List Zn) (L : Nat) : Lit → Option Value
  | .string l => (Z.find? (fun y => decide (y.nm.data.toList = l) && decide (nl y.nm = L))).map zV
  | _ => none
def cntL (Z : List Zn) (L : Nat) : Nat := (Z.filter (fun y => decide (nl y.nm = L))).length
def outAt (Z : List Zn) (β : Nat → Nat) : Lit → Option Value
  | .int .i64 (.ofNat L) => if hasL Z L = true then some (.map (some (β L))) else none
  | _ => none
theorem outAt_nat (Z : List Zn) (β : Nat → Nat) (L : Nat) : outAt Z β (.int .i64 (L : Int)) = if hasL Z L = true then some (.map (some (β L))) else none := rfl

theorem list_nm {a b : ByteArray} : a.data.toList = b.data.toList ↔ a = b := ⟨fun h => by
  cases a; cases b
  simp only [ByteArray.mk.injEq]
  exact Array.toList_inj.1 h, fun h => by rw [h]⟩
theorem inAt_nl (Z : List Zn) (s : ByteArray) : inAt Z (nl s) (.string s.data.toList) = (ofN Z s).map zV := by
  show (Z.find? (fun y => decide (y.nm.data.toList = s.data.toList) && decide (nl y.nm = nl s))).map zV = (Z.find? (fun y => decide (y.nm = s))).map zV
  congr 1
  induction Z with
  | nil => rfl
  | cons y r ih =>
    rw [List.find?_cons, List.find?_cons, ih]
    by_cases h : y.nm = s
    · simp [h]
    · have : ¬ y.nm.data.toList = s.data.toList := fun e => h (list_nm.1 e)
      simp [h, this]
theorem ofN_some {Z : List Zn} {s : ByteArray} {z : Zn} (h : ofN Z s = some z) : z ∈ Z ∧ z.nm = s := by
  unfold ofN at h
  have h2 := List.find?_some h
  exact ⟨List.mem_of_find?_eq_some h, by simpa using h2⟩
theorem ofN_has (Z : List Zn) (s : ByteArray) : (ofN Z s).isSome = hasN Z s := by
  unfold ofN hasN
  rw [Bool.eq_iff_iff, List.find?_isSome, List.any_eq_true]
theorem ofN_none {Z : List Zn} {s : ByteArray} (h : hasN Z s = false) : ofN Z s = none := by
  have := ofN_has Z s
  rw [h] at this
  cases e : ofN Z s with
  | none => rfl
  | some z => rw [e] at this; cases this
theorem hasL_of {Z : List Zn} {z : Zn} (h : z ∈ Z) : hasL Z (nl z.nm) = true := by
  unfold hasL
  rw [List.any_eq_true]
  exact ⟨z, h, decide_eq_true rfl⟩
theorem ofN_noL {Z : List Zn} {s : ByteArray} (h : hasL Z (nl s) = false) : ofN Z s = none := by
  cases e : ofN Z s with
  | none => rfl
  | some z =>
    obtain ⟨hz, rfl⟩ := ofN_some e
    rw [hasL_of hz] at h
    cases h
theorem hasL_app (Z : List Zn) (z : Zn) (L : Nat) : hasL (Z ++ [z]) L = (hasL Z L || decide (nl z.nm = L)) := by
  unfold hasL
  rw [List.any_append]
  simp
theorem cntL_app (Z : List Zn) (z : Zn) (L : Nat) : cntL (Z ++ [z]) L = cntL Z L + if nl z.nm = L then 1 else 0 := by
  unfold cntL
  rw [List.filter_append, List.length_append]
  by_cases h : nl z.nm = L <;> simp [h]
theorem cntL_le (Z : List Zn) (L : Nat) : cntL Z L ≤ Z.length := List.length_filter_le _ _
theorem cntL_zero {Z : List Zn} {L : Nat} (h : hasL Z L = false) : cntL Z L = 0 := by
  unfold cntL
  rw [List.length_eq_zero_iff, List.filter_eq_nil_iff]
  intro y hy e
  have : hasL Z L = true := List.any_eq_true.2 ⟨y, hy, e⟩
  rw [h] at this
  cases this
theorem inAt_zero {Z : List Zn} {L : Nat} (h : hasL Z L = false) (kl : Lit) : inAt Z L kl = none := by
  unfold inAt
  split
  · rename_i l
    rw [Option.map_eq_none_iff, List.find?_eq_none]
    intro y hy e
    rw [Bool.and_eq_true] at e
    have : hasL Z L = true := List.any_eq_true.2 ⟨y, hy, e.2⟩
    rw [h] at this
    cases this
  · rfl
theorem sameKey_str (a b : List UInt8) : (Lit.string a).sameKey (.string b) = decide (a = b) := by
  by_cases h : a = b
  · subst h
    rw [decide_eq_true rfl]
    exact WideAt.sameKey_self (by trivial)
  · rw [decide_eq_false h]
    exact Maps.sameKey_ne (fun e => h (by cases e; rfl))
theorem sameKey_int (a b : Int) : (Lit.int .i64 a).sameKey (.int .i64 b) = decide (a = b) := by
  by_cases h : a = b
  · subst h
    rw [decide_eq_true rfl]
    exact WideAt.sameKey_self (by trivial)
  · rw [decide_eq_false h]
    exact Maps.sameKey_ne (fun e => h (by cases e; rfl))
theorem inAt_put {Z : List Zn} {z : Zn} (h : hasN Z z.nm = false) (kl : Lit) : upd (inAt Z (nl z.nm)) (.string z.nm.data.toList) (zV z) kl = inAt (Z ++ [z]) (nl z.nm) kl := by
  unfold upd
  by_cases hk : kl.sameKey (.string z.nm.data.toList) = true
  · obtain rfl := WideAt.sameKey_eq hk
    rw [if_pos hk, inAt_nl, ofN]
    rw [List.find?_append]
    have := ofN_none h
    unfold ofN at this
    rw [this]
    simp
  · rw [if_neg hk]
    unfold inAt
    split
    · rename_i l
      rw [sameKey_str] at hk
      have hk : ¬ l = z.nm.data.toList := fun e => hk (decide_eq_true e)
      rw [List.find?_append]
      have : ¬ z.nm.data.toList = l := fun e => hk e.symm
      simp [this]
    · rfl
theorem inAt_keep (Z : List Zn) {z : Zn} {L : Nat} (h : nl z.nm ≠ L) (kl : Lit) : inAt Z L kl = inAt (Z ++ [z]) L kl := by
  unfold inAt
  split
  · rw [List.find?_append]
    simp [h]
  · rfl
theorem outAt_put (Z : List Zn) (z : Zn) (β : Nat → Nat) (g : Nat) (kl : Lit) :
    upd (outAt Z β) (.int .i64 (nl z.nm)) (.map (some g)) kl = outAt (Z ++ [z]) (fun L => if L = nl z.nm then g else β L) kl := by
  unfold upd
  by_cases hk : kl.sameKey (.int .i64 (nl z.nm)) = true
  · obtain rfl := WideAt.sameKey_eq hk
    rw [if_pos hk, outAt_nat, hasL_app]
    simp
  · rw [if_neg hk]
    unfold outAt
    split
    · rename_i L
      have hL : L ≠ nl z.nm := by
        rintro rfl
        exact hk (WideAt.sameKey_self (by trivial))
      have : ¬ nl z.nm = L := fun e => hL e.symm
      rw [hasL_app]
      simp [hL, this]
    · rfl
theorem outAt_keep {Z : List Zn} {z : Zn} (h : hasL Z (nl z.nm) = true) (β : Nat → Nat) (kl : Lit) : outAt Z β kl = outAt (Z ++ [z]) β kl := by
  unfold outAt
  split
  · rename_i L
    rw [hasL_app]
    by_cases e : nl z.nm = L
    · rw [← e, h]; simp
    · simp [e]
  · rfl
end Go.Proofs.Ytinjfongndlpgaa
