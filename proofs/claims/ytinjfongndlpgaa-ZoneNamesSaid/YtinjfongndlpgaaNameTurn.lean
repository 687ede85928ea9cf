/-
  Bytes whose letters' case is turned.
-/
import Derived.Test.YtinjfongndlpgaaNameS
namespace Go.Proofs.Ytinjfongndlpgaa
open Go.RowKit
set_option linter.unusedVariables false
set_option linter.unusedSimpArgs false
/-- A letter, of the other case. -/
def flip (c : UInt8) : UInt8 := if 97 ≤ c.toNat then UInt8.ofNat (c.toNat - 32) else UInt8.ofNat (c.toNat + 32)
def isL (n : Nat) : Prop := (97 ≤ n ∧ n ≤ 122) ∨ (65 ≤ n ∧ n ≤ 90)
theorem flip_nat {c : UInt8} (h : isL c.toNat) : (flip c).toNat = if 97 ≤ c.toNat then c.toNat - 32 else c.toNat + 32 := by
  unfold flip
  unfold isL at h
  by_cases h1 : 97 ≤ c.toNat
  · rw [if_pos h1, if_pos h1]; simp [UInt8.toNat_ofNat']; omega
  · rw [if_neg h1, if_neg h1]; simp [UInt8.toNat_ofNat']; omega
theorem low_nat (c : UInt8) : (low c).toNat = if 65 ≤ c.toNat ∧ c.toNat ≤ 90 then c.toNat + 32 else c.toNat := by
  unfold low
  by_cases h : 65 ≤ c.toNat ∧ c.toNat ≤ 90
  · rw [if_pos h, if_pos h]; simp [UInt8.toNat_ofNat']; omega
  · rw [if_neg h, if_neg h]
theorem low_flip {c : UInt8} (h : isL c.toNat) : low (flip c) = low c := by
  apply UInt8.toNat_inj.1
  rw [low_nat, low_nat, flip_nat h]
  unfold isL at h
  (repeat' split) <;> omega
theorem flip_int {c : UInt8} (h : isL c.toNat) : bits BinOp.xor IntKind.u8 (c.toNat : Int) 32 = ((flip c).toNat : Int) := by
  have key : (List.range 256).all (fun n => decide (bits BinOp.xor IntKind.u8 ((n : Nat) : Int) 32 = (((n ^^^ 32 : Nat)) : Int)) && (decide (n < 65 ∨ (90 < n ∧ n < 97) ∨ 122 < n) || decide (n ^^^ 32 = if 97 ≤ n then n - 32 else n + 32))) = true := by kernel_rfl
  rw [List.all_eq_true] at key
  have := key c.toNat (List.mem_range.2 (UInt8.toNat_lt _))
  rw [Bool.and_eq_true, Bool.or_eq_true, decide_eq_true_eq, decide_eq_true_eq, decide_eq_true_eq] at this
  rw [this.1, flip_nat h]
  rcases this.2 with h' | h'
  · unfold isL at h; omega
  · rw [h']
theorem cells_set {l : List UInt8} {w : World} {g k : Nat} (hk : k < l.length) (c : UInt8) (x : Int) (hx : x = (c.toNat : Int)) (h : ∀ j (hj : j < l.length), w.cell? ⟨g, j, none⟩ = some (.int .u8 (l[j].toNat : Int)) ∧ w.frozen? ⟨g, j, none⟩ = false) :
    ∀ j (hj : j < (l.set k c).length), (w.setCell ⟨g, k, none⟩ (.int .u8 x)).cell? ⟨g, j, none⟩ = some (.int .u8 ((l.set k c)[j].toNat : Int)) ∧ (w.setCell ⟨g, k, none⟩ (.int .u8 x)).frozen? ⟨g, j, none⟩ = false := by
  intro j hj
  have hj' : j < l.length := by rw [List.length_set] at hj; exact hj
  refine ⟨?_, by rw [World.frozen?_setCell]; exact (h j hj').2⟩
  rw [List.getElem_set]
  by_cases h2 : k = j
  · subst h2
    rw [World.cell?_setCell_same _ _ _ (h k hj').1, if_pos rfl, hx]
  · rw [World.cell?_setCell_other _ _ _ _ (fun e => h2 (by injection e with _ e _)), (h j hj').1, if_neg h2]
theorem turn_set {l : List UInt8} {k : Nat} (h : k < l.length) (hl : isL l[k].toNat) : (l.set k (flip l[k])).map low = l.map low := by
  rw [List.map_set, low_flip hl]
  apply List.ext_getElem
  · simp
  · intro i h1 h2
    rw [List.getElem_set]
    by_cases e : k = i
    · subst e; simp
    · simp [e]

/-- Bytes that are alike a name, folded, are one; it is the same. -/
theorem turned_is {a t : ByteArray} (ha : mayN a.data.toList = true) (h : t.data.toList.map low = a.data.toList.map low) : ∃ L M, okL L ∧ okL M ∧ fold M = fold L ∧ a = mk (enc L) ∧ t = mk (enc M) := by
  obtain ⟨L, hL, rfl⟩ := may_mk ha
  rw [mk_list] at h
  obtain ⟨M, e1, e2, e3⟩ := turned_name hL.1 h
  refine ⟨L, M, hL, ⟨e3, ?_⟩, e2, rfl, by rw [← e1]; rfl⟩
  have h1 := sz_fold M
  rw [e2, sz_fold] at h1
  have := hL.2
  omega
end Go.Proofs.Ytinjfongndlpgaa
