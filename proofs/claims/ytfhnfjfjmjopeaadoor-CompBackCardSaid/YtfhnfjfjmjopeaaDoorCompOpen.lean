/-
  Arguments of the laws of comp: a slice of items, opened to its cells.
-/
import Derived.Test.YtfhnfjfjmjopeaaDoorOpen
import Derived.Test.YtfhnfjfjmjopeaaDoorCompRd
import Derived.Test.YtfhnfjfjmjopeaaDoorRowAt
import Derived.Test.YtfhnfjfjmjopeaaDoorRowsOpen
namespace Go.Proofs.YtfhnfjfjmjopeaaDoor
open Go.RowKit Go.ChangeShapes Go.WideShapes Go.ChangeAt Go.Deep
set_option linter.unusedVariables false

structure It where
  nm : ByteArray
  cp : Bool
  kn : Bool
  gap : Nat
def itC (z : It) : List Value := [.string z.nm, .bool z.cp, .bool z.kn, .int .u16 z.gap]
def itRow (l : List It) : List Value := (l.map itC).flatten
def okI (z : It) : Prop := z.nm.size ≤ maxLen ∧ z.gap < 65536
theorem list4_it {α : Type} {l : List α} (h : l.length = 4) : ∃ x0 x1 x2 x3, l = [x0, x1, x2, x3] := by
  match l, h with
  | [x0, x1, x2, x3], _ => exact ⟨x0, x1, x2, x3, rfl⟩
set_option maxRecDepth 100000 in
theorem cells_it {H : Type} {enc : TypeId × Value → H} {W : World} {base : Nat} {sp : Nat → Bool} {held : Bool} {fuel : Nat} {cs : List Value} {x : DataW H × List MemPlace} (h : DataW.trod enc Tryd.prog W base sp held fuel 45 cs = some x) (hl : cs.length = 4) :
    ∃ z : It, cs = itC z ∧ okI z := by
  obtain ⟨xs, m, _, _, _, hx, hf⟩ := DataW.trod_struct Tryd.underlying45 h
  obtain ⟨c0, c1, c2, c3, rfl⟩ := list4_it hl
  obtain ⟨x0, x1, x2, x3, rfl⟩ := list4_it (hx.trans rfl)
  have z0 : Tryd.prog.cellsOf 9 = 1 := by kernel_rfl
  have z1 : Tryd.prog.cellsOf 4 = 1 := by kernel_rfl
  have z3 : Tryd.prog.cellsOf 43 = 1 := by kernel_rfl
  have h0 : DataW.trod enc Tryd.prog W base sp held m 9 (List.take (Tryd.prog.cellsOf 9) (List.drop 0 [c0, c1, c2, c3])) = some x0 := hf 0 _ rfl
  rw [z0] at h0
  obtain ⟨a0, e0, _, w0⟩ := DataW.trod_string Tryd.underlying9 h0
  have h1 : DataW.trod enc Tryd.prog W base sp held m 4 (List.take (Tryd.prog.cellsOf 4) (List.drop 1 [c0, c1, c2, c3])) = some x1 := hf 1 _ rfl
  rw [z1] at h1
  obtain ⟨a1, e1, _⟩ := DataW.trod_bool Tryd.underlying4 h1
  have h2 : DataW.trod enc Tryd.prog W base sp held m 4 (List.take (Tryd.prog.cellsOf 4) (List.drop 2 [c0, c1, c2, c3])) = some x2 := hf 2 _ rfl
  rw [z1] at h2
  obtain ⟨a2, e2, _⟩ := DataW.trod_bool Tryd.underlying4 h2
  have h3 : DataW.trod enc Tryd.prog W base sp held m 43 (List.take (Tryd.prog.cellsOf 43) (List.drop 3 [c0, c1, c2, c3])) = some x3 := hf 3 _ rfl
  rw [z3] at h3
  obtain ⟨a3, e3, _, w3⟩ := DataW.trod_int Tryd.underlying43 h3
  simp at e0 e1 e2 e3
  subst e0 e1 e2 e3
  have b3 := wf_u16 w3
  refine ⟨⟨a0, a1, a2, a3.toNat⟩, ?_, w0, by show a3.toNat < _; omega⟩
  unfold itC
  rw [show ((a3.toNat : Nat) : Int) = a3 by omega]
theorem its_of_rows : ∀ (rows : List (List Value)), (∀ r ∈ rows, ∃ z : It, r = itC z ∧ okI z) →
    ∃ l : List It, l.length = rows.length ∧ rows.flatten = itRow l ∧ ∀ z ∈ l, okI z := by
  intro rows
  induction rows with
  | nil => intro _; exact ⟨[], rfl, rfl, by simp⟩
  | cons r rows ih =>
    intro h
    obtain ⟨p, rfl, hp⟩ := h r (by simp)
    obtain ⟨l, hl, hf, hw⟩ := ih (fun r' h' => h r' (by simp [h']))
    refine ⟨p :: l, by simp [hl], ?_, fun q hq => ?_⟩
    · rw [List.flatten_cons, hf]; unfold itRow; rw [List.map_cons, List.flatten_cons]
    · rcases List.mem_cons.1 hq with rfl | hq
      · exact hp
      · exact hw q hq
theorem itRow_at {l : List It} {i : Nat} {o : It} (h : l[i]? = some o) (j : Nat) (hj : j < 4) : (itRow l)[i * 4 + j]? = (itC o)[j]? := by
  unfold itRow
  rw [flatten_getElem? _ i j (by intro r hr; simp only [List.mem_map] at hr; obtain ⟨_, _, rfl⟩ := hr; rfl) hj, List.getElem?_map, h]
  rfl
theorem it_cells {w : World} {B n : Nat} {C : Option Addr} {l : List It} (h : Reads w B 4 C n (itRow l)) (hl : l.length = n) {k : Nat} (hk : k < n) :
    ∃ bl off z, C = some ⟨bl, off, none⟩ ∧ bl < B ∧ l[k]? = some z ∧ z ∈ l ∧ w.cell? ⟨bl, off + k * 4, none⟩ = some (.string z.nm) ∧ w.cell? ⟨bl, off + k * 4 + 1, none⟩ = some (.bool z.cp) ∧ w.cell? ⟨bl, off + k * 4 + 2, none⟩ = some (.bool z.kn) ∧ w.cell? ⟨bl, off + k * 4 + 3, none⟩ = some (.int .u16 z.gap) := by
  obtain ⟨ad, e, hb, hc⟩ := h.2 (by omega)
  have hk' : k < l.length := by omega
  have hx : ∀ j, j < 4 → ∀ v, (itC l[k])[j]? = some v → w.cell? (ad.add (k * 4 + j)) = some v := fun j hj v hv => hc _ _ ((itRow_at (List.getElem?_eq_getElem hk') j hj).trans hv)
  obtain ⟨bl, off, spot⟩ := ad
  have hspot : spot = none := by
    have h0 := hc (0 * 4 + 0) _ (itRow_at (List.getElem?_eq_getElem (show 0 < l.length by omega)) 0 (by omega))
    have := World.cell?_spot h0
    simpa [Addr.add] using this
  subst hspot
  have c0 := hx 0 (by omega) _ rfl
  have c1 := hx 1 (by omega) _ rfl
  have c2 := hx 2 (by omega) _ rfl
  have c3 := hx 3 (by omega) _ rfl
  rw [addr_at] at c0 c1 c2 c3
  exact ⟨bl, off, l[k], e, hb, List.getElem?_eq_getElem hk', List.getElem_mem hk', by simpa using c0, by rw [Nat.add_assoc]; exact c1, by rw [Nat.add_assoc]; exact c2, by rw [Nat.add_assoc]; exact c3⟩
section
variable {H : Type} {enc : TypeId × Value → H} {W : World} {base : Nat} {v : Value} {d : DataW H} {p : List MemPlace}
set_option maxRecDepth 100000 in
theorem open_items (hok : Value.okWide Tryd.prog W .any base 38 v) (h : DataW.Trod enc Tryd.prog W 0 (fun _ => true) true 38 v d p) :
    ∃ (A : Option Addr) (n c : Nat) (l : List It), v = .slice A n c ∧ n ≤ c ∧ c ≤ maxLen ∧ l.length = n ∧ Reads W W.heap.size 4 A n (itRow l) ∧ ∀ z ∈ l, okI z := by
  obtain ⟨A, n, c, rows, rfl, hnc, hcm, _, hn, hr, hrd⟩ := open_rows (E := fun r => ∃ z : It, r = itC z ∧ okI z) (s := 4)
    Tryd.underlying38 (by kernel_rfl) (by omega) (fun fuel cs x htr hl => cells_it htr hl) hok h
  obtain ⟨l, hl, hfl, hw⟩ := its_of_rows rows (fun r hr' => (hr r hr').2)
  exact ⟨A, n, c, l, rfl, hnc, hcm, by omega, by rw [← hfl]; exact hrd, hw⟩
end
end Go.Proofs.YtfhnfjfjmjopeaaDoor
