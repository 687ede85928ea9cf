/-
  Package lru: rows of places held against each other, loaded and stored whole.
-/
import Derived.Test.YtfbknjboceheaaaLruAsk
import Derived.DeepKeys
import Derived.Laws.StructEq
import Derived.Deep.WholeRow
namespace Go.Proofs.Ytfbknjboceheaaa
open Go.RowKit
set_option linter.unusedVariables false

theorem mapM_of {α β : Type} (F : α → Option β) (G : α → β) : ∀ l : List α, (∀ x ∈ l, F x = some (G x)) → l.mapM F = some (l.map G)
  | [], _ => rfl
  | a :: l, h => by
    rw [List.mapM_cons, h a (by simp), mapM_of F G l (fun x hx => h x (by simp [hx]))]
    rfl
def lits (f : Nat → Nat) : List (List Lit) := (List.range 257).map fun q => [Lit.int .i64 (f q : Int)]
theorem keyLits_ring (f : Nat → Nat) (hf : ∀ q, q < 257 → f q < 257) : Try.prog.keyLits 2 33 (ring f) = some (lits f).flatten := by
  have hu := Try.underlying33
  have hi := Try.underlying3
  have hc : Try.prog.cellsOf 33 = 257 := by kernel_rfl
  have hc1 : Try.prog.cellsOf 3 = 1 := by kernel_rfl
  simp only [Program.keyLits, hu]
  rw [if_pos (by rw [ring_len, hc])]
  have e : ((List.range 257).mapM fun i => Try.prog.keyLits 1 3 (((ring f).drop (i * Try.prog.cellsOf 3)).take (Try.prog.cellsOf 3))) = some (lits f) := by
    refine mapM_of _ _ _ fun i hir => ?_
    have hi257 := List.mem_range.1 hir
    have h1 : ((ring f).drop (i * Try.prog.cellsOf 3)).take (Try.prog.cellsOf 3) = [Value.int .i64 (f i : Int)] := by
      rw [hc1, Nat.mul_one, List.drop_eq_getElem_cons (by rw [ring_len]; exact hi257)]
      have h2 := ring_at f hi257
      rw [List.getElem?_eq_getElem (by rw [ring_len]; exact hi257)] at h2
      injection h2 with h2
      rw [h2]
      rfl
    rw [h1]
    simp only [Program.keyLits, hi]
    have := hf i hi257
    have hw : (Lit.int .i64 (f i : Int)).wf = true := by
      have m1 : IntKind.min .i64 = -9223372036854775808 := by decide
      have m2 : IntKind.max .i64 = 9223372036854775807 := by decide
      unfold Lit.wf
      rw [Bool.and_eq_true, decide_eq_true_iff, decide_eq_true_iff, m1, m2]
      omega
    simp [hw]
  simp only [Program.keyLits] at e
  simp only [e]
  rfl
theorem ring_eq_iff (f f' : Nat → Nat) : (lits f).flatten = (lits f').flatten ↔ ∀ q, q < 257 → f q = f' q := by
  have e : ∀ F : Nat → Nat, (lits F).flatten = (List.range 257).map fun q => Lit.int .i64 (F q : Int) := by
    intro F
    unfold lits
    generalize List.range 257 = l
    induction l with
    | nil => rfl
    | cons a l ih => simp [ih]
  rw [e, e]
  constructor
  · intro h q hq
    have h1 := congrArg (fun l : List Lit => l[q]?) h
    simp only [List.getElem?_map, List.getElem?_range hq, Option.map_some] at h1
    injection h1 with h1
    injection h1 with _ h1
    omega
  · intro h
    refine List.map_congr_left fun q hq => ?_
    rw [h q (List.mem_range.1 hq)]

theorem neq_ring (w : World) (f f' : Nat → Nat) (hf : ∀ q, q < 257 → f q < 257) (hf' : ∀ q, q < 257 → f' q < 257) :
    ∃ b : Bool, (binOp .neq 33 (.agg (ring f).toArray) (.agg (ring f').toArray)).run Try.prog w = .ok (.bool b) w ∧ (b = false ↔ ∀ q, q < 257 → f q = f' q) ∧ (Op.equalIn 10000 33 (.agg (ring f).toArray) (.agg (ring f').toArray)).run Try.prog w = .ok (!b) w := by
  have hk : Try.prog.keyTypeAt 2 33 = true := by kernel_rfl
  have hfm : ∀ F : Nat → Nat, (Value.agg (ring F).toArray).formed Try.prog 33 = true := by
    intro F
    simp [Value.formed, Try.underlying33]
    exact (ring_len F).trans (by kernel_rfl)
  obtain ⟨r, hr, hiff⟩ := run_equalIn_deep (P := Try.prog) 9998 2 33 hk w 2 2 (.agg (ring f).toArray) (.agg (ring f').toArray) _ _ (hfm f) (hfm f') (by
    show Try.prog.keyLits 2 33 (ring f).toArray.toList = _
    exact keyLits_ring f hf) (by
    show Try.prog.keyLits 2 33 (ring f').toArray.toList = _
    exact keyLits_ring f' hf')
  refine ⟨!r, ?_, ?_, by rw [Bool.not_not]; exact hr⟩
  · rw [run_neq_struct, hr]
    rfl
  · rw [ring_eq_iff] at hiff
    cases r
    · simp at hiff
      constructor
      · intro h; cases h
      · intro h
        obtain ⟨q, hq, hne⟩ := hiff
        exact absurd (h q hq) hne
    · exact ⟨fun _ => hiff.1 rfl, fun _ => rfl⟩
end Go.Proofs.Ytfbknjboceheaaa
