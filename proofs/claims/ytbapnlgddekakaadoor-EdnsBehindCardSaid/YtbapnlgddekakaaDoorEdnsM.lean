/-
  EDNS options as plain data, and how bytes are read as a row of them; a struct and a number as results.
-/
import Derived.Test.YtbapnlgddekakaaDoorCurStr
import Derived.Test.YtbapnlgddekakaaDoorRowW
import Derived.Test.YtbapnlgddekakaaDoorRowAt
import Derived.Test.YtbapnlgddekakaaDoorRowsOpen
namespace Go.Proofs.YtbapnlgddekakaaDoor
open Go.RowKit
set_option linter.unusedVariables false
set_option linter.unusedSimpArgs false

/-- An option: its code, its data. -/
abbrev Opt := Nat × ByteArray
def oC (o : Opt) : List Value := [.int .u16 o.1, .string o.2]
def oRow (l : List Opt) : List Value := (l.map oC).flatten
theorem oRow_length (l : List Opt) : (oRow l).length = l.length * 2 := by
  unfold oRow
  induction l with
  | nil => rfl
  | cons a l ih => rw [List.map_cons, List.flatten_cons, List.length_append, ih, List.length_cons]; show 2 + _ = _; omega
theorem oRow_snoc (l : List Opt) (o : Opt) : oRow (l ++ [o]) = oRow l ++ oC o := by unfold oRow; simp
theorem oC_one (o : Opt) : ∀ v ∈ oC o, v.oneCell' = true := by
  intro v hv
  simp only [oC, List.mem_cons, List.not_mem_nil, or_false] at hv
  rcases hv with rfl | rfl <;> rfl
theorem oRow_at {l : List Opt} {i : Nat} {o : Opt} (h : l[i]? = some o) (j : Nat) (hj : j < 2) : (oRow l)[i * 2 + j]? = (oC o)[j]? := by
  unfold oRow
  rw [flatten_getElem? _ i j (by intro r hr; simp only [List.mem_map] at hr; obtain ⟨_, _, rfl⟩ := hr; rfl) hj, List.getElem?_map, h]
  rfl
/-- The option at a place, and the place behind it. -/
def optAt (s : ByteArray) (a : Nat) : Option (Opt × Nat) :=
  if a + 4 ≤ s.size then
    if a + 4 + numAt s (a + 2) 2 ≤ s.size then some ((numAt s a 2, s.extract (a + 4) (a + 4 + numAt s (a + 2) 2)), a + 4 + numAt s (a + 2) 2) else none
  else none
def pars : Nat → ByteArray → Nat → Option (List Opt)
  | 0, _, _ => some []
  | f + 1, s, a => if s.size ≤ a then some [] else match optAt s a with
    | none => none
    | some (o, b) => (pars f s b).map (o :: ·)
theorem pars_succ (f : Nat) (s : ByteArray) (a : Nat) : pars (f + 1) s a = if s.size ≤ a then some [] else match optAt s a with
    | none => none
    | some (o, b) => (pars f s b).map (o :: ·) := rfl
/-- All options of a text, or nothing. -/
def optsOf (s : ByteArray) : Option (List Opt) := pars (s.size + 1) s 0
theorem optAt_le {s : ByteArray} {a b : Nat} {o : Opt} (h : optAt s a = some (o, b)) : a + 4 ≤ b ∧ b ≤ s.size ∧ o.1 < 65536 := by
  unfold optAt at h
  split at h
  · rename_i h4
    split at h
    · rename_i hn
      injection h with h
      injection h with h1 h2
      subst h2
      refine ⟨by omega, hn, ?_⟩
      rw [← h1]
      exact beL_len s a 2 (by omega)
    · cases h
  · cases h
/-- What was read so far, from where it goes on. -/
def Sofar (s : ByteArray) (acc : List Opt) (a : Nat) : Prop := ∃ f, s.size - a < f ∧ optsOf s = (pars f s a).map (acc ++ ·)
theorem Sofar.start (s : ByteArray) : Sofar s [] 0 := ⟨s.size + 1, by omega, by unfold optsOf; cases pars (s.size + 1) s 0 <;> rfl⟩
theorem Sofar.next {s : ByteArray} {acc : List Opt} {a b : Nat} {o : Opt} (h : Sofar s acc a) (ha : a < s.size) (ho : optAt s a = some (o, b)) : Sofar s (acc ++ [o]) b := by
  obtain ⟨f, hf, he⟩ := h
  obtain ⟨h1, h2, _⟩ := optAt_le ho
  obtain ⟨f', rfl⟩ : ∃ f', f = f' + 1 := ⟨f - 1, by omega⟩
  refine ⟨f', by omega, ?_⟩
  rw [he]
  rw [pars_succ, if_neg (by omega), ho]
  simp only []
  rw [Option.map_map]
  congr 1
  funext l
  simp
theorem Sofar.bad {s : ByteArray} {acc : List Opt} {a : Nat} (h : Sofar s acc a) (ha : a < s.size) (ho : optAt s a = none) : optsOf s = none := by
  obtain ⟨f, hf, he⟩ := h
  obtain ⟨f', rfl⟩ : ∃ f', f = f' + 1 := ⟨f - 1, by omega⟩
  rw [he]
  rw [pars_succ, if_neg (by omega), ho]
  rfl
theorem Sofar.done {s : ByteArray} {acc : List Opt} {a : Nat} (h : Sofar s acc a) (ha : s.size ≤ a) : optsOf s = some acc := by
  obtain ⟨f, hf, he⟩ := h
  obtain ⟨f', rfl⟩ : ∃ f', f = f' + 1 := ⟨f - 1, by omega⟩
  rw [he]
  rw [pars_succ, if_pos ha]
  simp

section
variable {P : Program}
theorem results_cr {fn : Func} {p u : Tmp} {ty : TypeId} (h : fn.results = #[.cell p ty, .tmp u]) (tmps : Array Value) (w : World) (g : Nat) (t : TypeId) (cs : Array Value) (d : TypeDesc)
    (hp : tmps.getD p undef = .pointer (some ⟨g, 0, none⟩)) (hg : Blk w g t cs) (v : Value) (hv : tmps.getD u undef = v)
    (hu : P.underlying ty = some d) (hd : (match d with | .struct _ | .array _ _ => true | _ => false) = true) (hi : (P.info? ty).map (·.size) = some cs.size) :
    (results fn tmps).run P w = .ok (.tuple #[.agg cs, v]) w := by
  have hp' : tmps[p]?.getD undef = .pointer (some ⟨g, 0, none⟩) := by simpa using hp
  have hv' : tmps[u]?.getD undef = v := by simpa using hv
  simp [results, h, hp', hv', asAddr, run_loadVar_row w g t ty cs (0, 0) d hg hu hd hi, Sem.run_bind]
end
end Go.Proofs.YtbapnlgddekakaaDoor
