/-
  Arguments of the laws of zone: a slice of zones, a zone, opened to their cells.
-/
import Derived.Test.YtinjfongndlpgaaZoneNew
import Derived.Test.YtinjfongndlpgaaOpen
import Derived.Test.YtinjfongndlpgaaRowsOpen
namespace Go.Proofs.Ytinjfongndlpgaa
open Go.RowKit Go.ChangeShapes Go.WideShapes Go.ChangeAt Go.Deep
set_option linter.unusedVariables false

theorem list3_zn {α : Type} {l : List α} (h : l.length = 3) : ∃ x0 x1 x2, l = [x0, x1, x2] := by
  match l, h with
  | [x0, x1, x2], _ => exact ⟨x0, x1, x2, rfl⟩
def okA (z : Zn) : Prop := z.nm.size ≤ maxLen ∧ z.pol < 256 ∧ z.tr < 65536
set_option maxRecDepth 100000 in
theorem cells_zn {H : Type} {enc : TypeId × Value → H} {W : World} {base : Nat} {sp : Nat → Bool} {held : Bool} {fuel : Nat} {cs : List Value} {x : DataW H × List MemPlace} (h : DataW.trod enc Try.prog W base sp held fuel 35 cs = some x) (hl : cs.length = 3) :
    ∃ z : Zn, cs = zC z ∧ okA z := by
  obtain ⟨xs, m, _, _, _, hx, hf⟩ := DataW.trod_struct Try.underlying35 h
  obtain ⟨c0, c1, c2, rfl⟩ := list3_zn hl
  obtain ⟨x0, x1, x2, rfl⟩ := list3_zn (hx.trans rfl)
  have z0 : Try.prog.cellsOf 9 = 1 := by kernel_rfl
  have z1 : Try.prog.cellsOf 5 = 1 := by kernel_rfl
  have z2 : Try.prog.cellsOf 33 = 1 := by kernel_rfl
  have h0 : DataW.trod enc Try.prog W base sp held m 9 (List.take (Try.prog.cellsOf 9) (List.drop 0 [c0, c1, c2])) = some x0 := hf 0 _ rfl
  rw [z0] at h0
  obtain ⟨a0, e0, _, w0⟩ := DataW.trod_string Try.underlying9 h0
  have h1 : DataW.trod enc Try.prog W base sp held m 5 (List.take (Try.prog.cellsOf 5) (List.drop 1 [c0, c1, c2])) = some x1 := hf 1 _ rfl
  rw [z1] at h1
  obtain ⟨a1, e1, _, w1⟩ := DataW.trod_int Try.underlying5 h1
  have h2 : DataW.trod enc Try.prog W base sp held m 33 (List.take (Try.prog.cellsOf 33) (List.drop 2 [c0, c1, c2])) = some x2 := hf 2 _ rfl
  rw [z2] at h2
  obtain ⟨a2, e2, _, w2⟩ := DataW.trod_int Try.underlying33 h2
  simp at e0 e1 e2
  subst e0
  subst e1
  subst e2
  have b1 := wf_u8 w1
  have b2 := wf_u16 w2
  refine ⟨⟨a0, a1.toNat, a2.toNat⟩, ?_, w0, by show a1.toNat < _; omega, by show a2.toNat < _; omega⟩
  unfold zC
  rw [show ((a1.toNat : Nat) : Int) = a1 by omega, show ((a2.toNat : Nat) : Int) = a2 by omega]
theorem zones_of_rows : ∀ (rows : List (List Value)), (∀ r ∈ rows, ∃ z : Zn, r = zC z ∧ okA z) →
    ∃ l : List Zn, l.length = rows.length ∧ rows.flatten = zRow l ∧ ∀ z ∈ l, okA z := by
  intro rows
  induction rows with
  | nil => intro _; exact ⟨[], rfl, rfl, by simp⟩
  | cons r rows ih =>
    intro h
    obtain ⟨p, rfl, hp⟩ := h r (by simp)
    obtain ⟨l, hl, hf, hw⟩ := ih (fun r' h' => h r' (by simp [h']))
    refine ⟨p :: l, by simp [hl], ?_, fun q hq => ?_⟩
    · rw [List.flatten_cons, hf]; unfold zRow; rw [List.map_cons, List.flatten_cons]
    · rcases List.mem_cons.1 hq with rfl | hq
      · exact hp
      · exact hw q hq
section
variable {H : Type} {enc : TypeId × Value → H} {W : World} {base : Nat} {v : Value} {d : DataW H} {p : List MemPlace}
theorem open_zones (hok : Value.okWide Try.prog W .any base 22 v) (h : DataW.Trod enc Try.prog W 0 (fun _ => true) true 22 v d p) :
    ∃ (A : Option Addr) (n c : Nat) (l : List Zn), v = .slice A n c ∧ n ≤ c ∧ c ≤ maxLen ∧ l.length = n ∧ Reads W W.heap.size 3 A n (zRow l) ∧ ∀ z ∈ l, okA z := by
  obtain ⟨A, n, c, rows, rfl, hnc, hcm, _, hn, hr, hrd⟩ := open_rows (E := fun r => ∃ z : Zn, r = zC z ∧ okA z) (s := 3)
    Try.underlying22 (by kernel_rfl) (by omega) (fun fuel cs x htr hl => cells_zn htr hl) hok h
  obtain ⟨l, hl, hfl, hw⟩ := zones_of_rows rows (fun r hr' => (hr r hr').2)
  exact ⟨A, n, c, l, rfl, hnc, hcm, by omega, by rw [← hfl]; exact hrd, hw⟩
theorem open_zone (hok : Value.okWide Try.prog W .any base 35 v) (h : DataW.Trod enc Try.prog W 0 (fun _ => true) true 35 v d p) :
    ∃ z : Zn, v = .agg #[.string z.nm, .int .u8 z.pol, .int .u16 z.tr] ∧ okA z := by
  obtain ⟨⟨cs⟩, rfl, hsz⟩ := okWide_struct Try.underlying35 hok
  obtain ⟨fuel, hf⟩ := h
  obtain ⟨z, e, hz⟩ := cells_zn (show DataW.trod enc Try.prog W 0 (fun _ => true) true fuel 35 cs = some (d, p) by simpa [Value.cells] using hf) (hsz.trans (by kernel_rfl))
  exact ⟨z, by rw [e]; rfl, hz⟩
end
end Go.Proofs.Ytinjfongndlpgaa
