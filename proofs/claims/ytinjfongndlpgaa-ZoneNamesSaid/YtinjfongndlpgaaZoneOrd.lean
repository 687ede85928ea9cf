/-
  A row of zones turned about; two rows that grow one beside the other.
-/
import Derived.Test.YtinjfongndlpgaaZoneFacts
namespace Go.Proofs.Ytinjfongndlpgaa
open Go.RowKit
set_option linter.unusedVariables false
set_option linter.unusedSimpArgs false

def rotL (l : List Zn) (d : Nat) : List Zn := l.drop d ++ l.take d
theorem rotL_perm (l : List Zn) (d : Nat) : (rotL l d).Perm l := by
  unfold rotL
  exact (List.perm_append_comm).trans (by rw [List.take_append_drop])
theorem rotL_length (l : List Zn) (d : Nat) : (rotL l d).length = l.length := (rotL_perm l d).length_eq
theorem rotL_at {l : List Zn} {d k : Nat} (hd : d < l.length) (hk : k < l.length) : (rotL l d)[k]? = l[(k + d) % l.length]? := by
  unfold rotL
  rw [List.getElem?_append, List.length_drop]
  by_cases h : k < l.length - d
  · rw [if_pos h, List.getElem?_drop, Nat.mod_eq_of_lt (by omega), Nat.add_comm]
  · rw [if_neg h, List.getElem?_take, if_pos (by omega), Nat.mod_eq_sub_mod (by omega), Nat.mod_eq_of_lt (by omega)]
    congr 1
    omega
theorem take_more {l : List Zn} {k : Nat} {z : Zn} (h : l[k]? = some z) : l.take (k + 1) = l.take k ++ [z] := by
  obtain ⟨hk, e⟩ := List.getElem?_eq_some_iff.1 h
  rw [List.take_succ_eq_append_getElem hk, e]
theorem errZ_perm {l l' : List Zn} (h : l.Perm l') : errZ l = 0 ↔ errZ l' = 0 := by
  rw [errZ_ok, errZ_ok, h.length_eq]
  unfold okT
  rw [h.pairwise_iff (fun hab e => hab e.symm)]
  constructor
  · rintro ⟨a, b, c⟩; exact ⟨a, fun z hz => b z (h.mem_iff.2 hz), c⟩
  · rintro ⟨a, b, c⟩; exact ⟨a, fun z hz => b z (h.mem_iff.1 hz), c⟩
theorem findZ_perm {l l' : List Zn} (h : l.Perm l') (ho : okT l) (ho' : okT l') (s : ByteArray) : findZ l s = findZ l' s := findZ_same ho ho' (fun z => h.mem_iff) s
theorem u64_mod (b : Int) (n : Nat) : (IntKind.u64.wrap b).tmod (n : Int) = (((b % 18446744073709551616).toNat % n : Nat) : Int) := by
  have h : IntKind.u64.wrap b = (((b % 18446744073709551616).toNat : Nat) : Int) := by
    have e : IntKind.u64.wrap b = b % 18446744073709551616 := rfl
    rw [e, Int.toNat_of_nonneg (Int.emod_nonneg _ (by decide))]
  rw [h]
  rfl
theorem rot_facts (l : List Zn) (b : Int) (n k d : Nat) (hl : l.length = n) (hd : d = (b % 18446744073709551616).toNat % n) (hn : n ≤ 1000) (hk : k < n) :
    ∃ x m r : Nat, m < n ∧ r < n ∧ RowKit.wrap64 (d : Int) = (d : Int) ∧ RowKit.wrap64 ((k : Int) + (d : Int)) = (x : Int) ∧ (x : Int).tmod (n : Int) = (m : Int) ∧ (n : Int) - 1 - (k : Int) = (r : Int) ∧
      (∀ z, l[m]? = some z → (rotL l d).take (k + 1) = (rotL l d).take k ++ [z]) ∧ (∀ z, l[r]? = some z → l.reverse.take (k + 1) = l.reverse.take k ++ [z]) := by
  have hdn : d < n := by rw [hd]; exact Nat.mod_lt _ (by omega)
  clear hd
  refine ⟨k + d, (k + d) % n, n - 1 - k, Nat.mod_lt _ (by omega), by omega, IntWalk.wrap64_in _ ⟨by omega, by omega⟩, ?_, rfl, by omega, fun z h => ?_, fun z h => ?_⟩
  · rw [IntWalk.wrap64_in _ ⟨by omega, by omega⟩]; omega
  · exact take_more (by rw [rotL_at (by omega) (by omega), hl]; exact h)
  · exact take_more (by rw [List.getElem?_reverse (by omega), hl]; exact h)
def Sep (v v' : Value) : Prop := ∀ k, v.ownBlock = some k → v'.ownBlock ≠ some k
theorem sep_none {v : Value} {n c : Nat} : Sep (.slice none n c) v := fun k h => by cases h
theorem Sep.symm {v v' : Value} (h : Sep v v') : Sep v' v := fun k h1 h2 => h k h2 h1
theorem Sep.grow {v v' u : Value} {K : Nat} (h : Sep v u) (hv : v'.ownBlock = v.ownBlock ∨ v'.ownBlock = some K) (hu : ∀ k, u.ownBlock = some k → k < K) : Sep v' u := fun k h1 h2 => by
  rcases hv with e | e
  · exact h k (by rw [← e]; exact h1) h2
  · rw [e] at h1
    cases h1
    exact Nat.lt_irrefl _ (hu _ h2)
/-- What the other row's growth leaves. -/
theorem own_beside {w w' : World} {base : Nat} {e : TypeId} {size n : Nat} {u v : Value} {xs : List Value} (h : w.ownsRow base e size u n xs) (hg : w.grownBy w' v.ownBlock) (hs : Sep u v) : w'.ownsRow base e size u n xs :=
  own_only h ((Only.refl (fun k => v.ownBlock = some k) w).grown hg (fun k hk => .inl hk)) (fun k hk e => hs k hk e)
end Go.Proofs.Ytinjfongndlpgaa
